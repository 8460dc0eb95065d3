/- The number of dots: impl's Frame.count; spec's l01Count is the length of the list of dots. -/
import Derived.Test.YtkcomhbmhgnhhabRows
import Derived.Test.YtkcomhbmhgnhhabOnes
import Derived.Test.YtkcomhbmhgnhhabDots
import Derived.Test.YtkcomhbmhgnhhabIValid
namespace Go.Proofs.Ytkcomhbmhgnhhab
open Go.RowKit
/-- CountDots's number. -/
def cntV (f : Nat → Nat) : Int := if okF f then popSum f 12 else 0
end Go.Proofs.Ytkcomhbmhgnhhab
