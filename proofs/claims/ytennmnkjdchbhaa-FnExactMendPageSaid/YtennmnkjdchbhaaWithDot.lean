/- WithDot, of spec and of impl. -/
import Derived.Test.YtennmnkjdchbhaaRows
import Derived.Test.YtennmnkjdchbhaaS1
import Derived.Test.YtennmnkjdchbhaaIPlace
import Derived.Test.YtennmnkjdchbhaaILess
namespace Go.Proofs.Ytennmnkjdchbhaa
open Go.RowKit
end Go.Proofs.Ytennmnkjdchbhaa
