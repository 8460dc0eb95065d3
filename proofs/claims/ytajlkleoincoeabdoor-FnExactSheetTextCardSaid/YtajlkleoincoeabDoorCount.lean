/- The number of dots: impl's Frame.count; spec's l01Count is the length of the list of dots. -/
import Derived.Test.YtajlkleoincoeabDoorRows
import Derived.Test.YtajlkleoincoeabDoorOnes
import Derived.Test.YtajlkleoincoeabDoorDots
import Derived.Test.YtajlkleoincoeabDoorIValid
namespace Go.Proofs.YtajlkleoincoeabDoor
open Go.RowKit
/-- CountDots's number. -/
def cntV (f : Nat → Nat) : Int := if okF f then popSum f 12 else 0
end Go.Proofs.YtajlkleoincoeabDoor
