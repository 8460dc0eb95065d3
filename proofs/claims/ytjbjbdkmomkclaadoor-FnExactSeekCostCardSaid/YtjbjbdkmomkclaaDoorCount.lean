/- The number of dots: impl's Frame.count; spec's l01Count is the length of the list of dots. -/
import Derived.Test.YtjbjbdkmomkclaaDoorRows
import Derived.Test.YtjbjbdkmomkclaaDoorOnes
import Derived.Test.YtjbjbdkmomkclaaDoorDots
import Derived.Test.YtjbjbdkmomkclaaDoorIValid
namespace Go.Proofs.YtjbjbdkmomkclaaDoor
open Go.RowKit
/-- CountDots's number. -/
def cntV (f : Nat → Nat) : Int := if okF f then popSum f 12 else 0
end Go.Proofs.YtjbjbdkmomkclaaDoor
