/- WithDot, of spec and of impl. -/
import Derived.Test.YtennmnkjdchbhabDoorRows
import Derived.Test.YtennmnkjdchbhabDoorS1
import Derived.Test.YtennmnkjdchbhabDoorIPlace
import Derived.Test.YtennmnkjdchbhabDoorILess
namespace Go.Proofs.YtennmnkjdchbhabDoor
open Go.RowKit
end Go.Proofs.YtennmnkjdchbhabDoor
