/- EASES, the program: shareOf (a table of functions), EaseOf. -/
import Derived.Test.YtennmnkjdchbhaaDoorIEase
namespace Go.Proofs.YtennmnkjdchbhaaDoor
open Go.RowKit
set_option linter.unusedVariables false
set_option linter.unusedSimpArgs false
end Go.Proofs.YtennmnkjdchbhaaDoor
