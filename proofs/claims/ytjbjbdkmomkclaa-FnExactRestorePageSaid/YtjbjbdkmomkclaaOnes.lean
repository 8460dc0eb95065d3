/- math/bits.OnesCount16. -/
import Derived.Test.YtjbjbdkmomkclaaRows
import Derived.Test.YtjbjbdkmomkclaaFr
import Derived.Test.YtjbjbdkmomkclaaPop
namespace Go.Proofs.Ytjbjbdkmomkclaa
open Go.RowKit
end Go.Proofs.Ytjbjbdkmomkclaa
