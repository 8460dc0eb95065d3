/- math/bits.OnesCount16. -/
import Derived.Test.YtajlkleoincoeabDoorRows
import Derived.Test.YtajlkleoincoeabDoorFr
import Derived.Test.YtajlkleoincoeabDoorPop
namespace Go.Proofs.YtajlkleoincoeabDoor
open Go.RowKit
end Go.Proofs.YtajlkleoincoeabDoor
