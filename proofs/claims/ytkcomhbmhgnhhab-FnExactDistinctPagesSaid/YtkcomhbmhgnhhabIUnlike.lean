/- impl: Frame.unlike: two frames, place by place. -/
import Derived.Test.YtkcomhbmhgnhhabRows
import Derived.Test.YtkcomhbmhgnhhabFr
namespace Go.Proofs.Ytkcomhbmhgnhhab
open Go.RowKit
end Go.Proofs.Ytkcomhbmhgnhhab
