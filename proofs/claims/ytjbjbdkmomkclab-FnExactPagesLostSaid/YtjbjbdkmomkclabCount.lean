/- The number of dots: impl's Frame.count; spec's l01Count is the length of the list of dots. -/
import Derived.Test.YtjbjbdkmomkclabRows
import Derived.Test.YtjbjbdkmomkclabOnes
import Derived.Test.YtjbjbdkmomkclabDots
import Derived.Test.YtjbjbdkmomkclabIValid
namespace Go.Proofs.Ytjbjbdkmomkclab
open Go.RowKit
/-- CountDots's number. -/
def cntV (f : Nat → Nat) : Int := if okF f then popSum f 12 else 0
end Go.Proofs.Ytjbjbdkmomkclab
