/- math/bits.OnesCount16. -/
import Derived.Test.YtjbjbdkmomkclabRows
import Derived.Test.YtjbjbdkmomkclabFr
import Derived.Test.YtjbjbdkmomkclabPop
namespace Go.Proofs.Ytjbjbdkmomkclab
open Go.RowKit
end Go.Proofs.Ytjbjbdkmomkclab
