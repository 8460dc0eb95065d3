/- The number of dots: impl's Frame.count; spec's l01Count is the length of the list of dots. -/
import Derived.Test.YtpmlepgnokbpaaaRows
import Derived.Test.YtpmlepgnokbpaaaOnes
import Derived.Test.YtpmlepgnokbpaaaDots
import Derived.Test.YtpmlepgnokbpaaaIValid
namespace Go.Proofs.Ytpmlepgnokbpaaa
open Go.RowKit
/-- CountDots's number. -/
def cntV (f : Nat → Nat) : Int := if okF f then popSum f 12 else 0
end Go.Proofs.Ytpmlepgnokbpaaa
