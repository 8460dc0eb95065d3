/- The number of dots: impl's Frame.count; spec's l01Count is the length of the list of dots. -/
import Derived.Test.YtajlkleoincoeabRows
import Derived.Test.YtajlkleoincoeabOnes
import Derived.Test.YtajlkleoincoeabDots
import Derived.Test.YtajlkleoincoeabIValid
namespace Go.Proofs.Ytajlkleoincoeab
open Go.RowKit
/-- CountDots's number. -/
def cntV (f : Nat → Nat) : Int := if okF f then popSum f 12 else 0
end Go.Proofs.Ytajlkleoincoeab
