/- impl: Frame.unlike: two frames, place by place. -/
import Derived.Test.YthkpefdjhdemeacRows
import Derived.Test.YthkpefdjhdemeacFr
namespace Go.Proofs.Ythkpefdjhdemeac
open Go.RowKit
end Go.Proofs.Ythkpefdjhdemeac
