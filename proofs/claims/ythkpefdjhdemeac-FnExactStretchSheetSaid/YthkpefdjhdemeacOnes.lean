/- math/bits.OnesCount16. -/
import Derived.Test.YthkpefdjhdemeacRows
import Derived.Test.YthkpefdjhdemeacFr
import Derived.Test.YthkpefdjhdemeacPop
namespace Go.Proofs.Ythkpefdjhdemeac
open Go.RowKit
end Go.Proofs.Ythkpefdjhdemeac
