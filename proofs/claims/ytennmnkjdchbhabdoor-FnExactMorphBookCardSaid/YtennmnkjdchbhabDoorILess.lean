/- impl: Frame.less: two frames, place by place. -/
import Derived.Test.YtennmnkjdchbhabDoorRows
import Derived.Test.YtennmnkjdchbhabDoorFr
namespace Go.Proofs.YtennmnkjdchbhabDoor
open Go.RowKit
end Go.Proofs.YtennmnkjdchbhabDoor
