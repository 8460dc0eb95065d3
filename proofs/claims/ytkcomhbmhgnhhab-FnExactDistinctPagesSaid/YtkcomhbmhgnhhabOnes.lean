/- math/bits.OnesCount16. -/
import Derived.Test.YtkcomhbmhgnhhabRows
import Derived.Test.YtkcomhbmhgnhhabFr
import Derived.Test.YtkcomhbmhgnhhabPop
namespace Go.Proofs.Ytkcomhbmhgnhhab
open Go.RowKit
end Go.Proofs.Ytkcomhbmhgnhhab
