/- impl: Key.between. -/
import Derived.Test.YtennmnkjdchbhaaDoorBetween
import Derived.Test.YtennmnkjdchbhaaDoorTrackM
import Derived.Test.YtennmnkjdchbhaaDoorCellQ
namespace Go.Proofs.YtennmnkjdchbhaaDoor
open Go.RowKit
set_option linter.unusedVariables false
set_option linter.unusedSimpArgs false
end Go.Proofs.YtennmnkjdchbhaaDoor
