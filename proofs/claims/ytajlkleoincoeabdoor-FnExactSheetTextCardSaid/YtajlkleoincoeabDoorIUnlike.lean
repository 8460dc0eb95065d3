/- impl: Frame.unlike: two frames, place by place. -/
import Derived.Test.YtajlkleoincoeabDoorRows
import Derived.Test.YtajlkleoincoeabDoorFr
namespace Go.Proofs.YtajlkleoincoeabDoor
open Go.RowKit
end Go.Proofs.YtajlkleoincoeabDoor
