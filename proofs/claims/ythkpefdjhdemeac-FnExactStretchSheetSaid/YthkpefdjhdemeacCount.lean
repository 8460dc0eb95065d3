/- The number of dots: impl's Frame.count; spec's l01Count is the length of the list of dots. -/
import Derived.Test.YthkpefdjhdemeacRows
import Derived.Test.YthkpefdjhdemeacOnes
import Derived.Test.YthkpefdjhdemeacDots
import Derived.Test.YthkpefdjhdemeacIValid
namespace Go.Proofs.Ythkpefdjhdemeac
open Go.RowKit
/-- CountDots's number. -/
def cntV (f : Nat → Nat) : Int := if okF f then popSum f 12 else 0
end Go.Proofs.Ythkpefdjhdemeac
