/- The number of dots: impl's Frame.count; spec's l01Count is the length of the list of dots. -/
import Derived.Test.YtjbjbdkmomkclaaRows
import Derived.Test.YtjbjbdkmomkclaaOnes
import Derived.Test.YtjbjbdkmomkclaaDots
import Derived.Test.YtjbjbdkmomkclaaIValid
namespace Go.Proofs.Ytjbjbdkmomkclaa
open Go.RowKit
/-- CountDots's number. -/
def cntV (f : Nat → Nat) : Int := if okF f then popSum f 12 else 0
end Go.Proofs.Ytjbjbdkmomkclaa
