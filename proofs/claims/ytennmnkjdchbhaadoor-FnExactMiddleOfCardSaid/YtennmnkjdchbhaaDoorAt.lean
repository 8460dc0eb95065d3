/- impl: Track.at. -/
import Derived.Test.YtennmnkjdchbhaaDoorBetw
import Derived.Test.YtennmnkjdchbhaaDoorHeld2
import Derived.Test.YtennmnkjdchbhaaDoorPlaceM
import Derived.Test.YtennmnkjdchbhaaDoorITrack
import Derived.Test.YtennmnkjdchbhaaDoorIShareOf
namespace Go.Proofs.YtennmnkjdchbhaaDoor
open Go.RowKit
set_option linter.unusedVariables false
set_option linter.unusedSimpArgs false
/-- The two keys at hand, behind n keys. -/
def frK (L : List (Int × Int × Int)) (n : Nat) : Int × Int × Int := kAt L (n - 1)
def toK (L : List (Int × Int × Int)) (n : Nat) : Int × Int × Int := kAt L (min n (L.length - 1))
end Go.Proofs.YtennmnkjdchbhaaDoor
