/- impl: isTick, isWithin. -/
import Derived.Test.YtennmnkjdchbhaaS1
import Derived.Test.YtennmnkjdchbhaaMath
namespace Go.Proofs.Ytennmnkjdchbhaa
open Go.RowKit
set_option linter.unusedVariables false
end Go.Proofs.Ytennmnkjdchbhaa
