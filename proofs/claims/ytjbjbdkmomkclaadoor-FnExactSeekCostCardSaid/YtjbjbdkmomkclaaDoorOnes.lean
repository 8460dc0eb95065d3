/- math/bits.OnesCount16. -/
import Derived.Test.YtjbjbdkmomkclaaDoorRows
import Derived.Test.YtjbjbdkmomkclaaDoorFr
import Derived.Test.YtjbjbdkmomkclaaDoorPop
namespace Go.Proofs.YtjbjbdkmomkclaaDoor
open Go.RowKit
end Go.Proofs.YtjbjbdkmomkclaaDoor
