/- impl: isTick, isWithin. -/
import Derived.Test.YtennmnkjdchbhaaDoorS1
import Derived.Test.YtennmnkjdchbhaaDoorMath
namespace Go.Proofs.YtennmnkjdchbhaaDoor
open Go.RowKit
set_option linter.unusedVariables false
end Go.Proofs.YtennmnkjdchbhaaDoor
