/- WithDot, of spec and of impl. -/
import Derived.Test.YtennmnkjdchbhaaDoorRows
import Derived.Test.YtennmnkjdchbhaaDoorS1
import Derived.Test.YtennmnkjdchbhaaDoorIPlace
import Derived.Test.YtennmnkjdchbhaaDoorILess
namespace Go.Proofs.YtennmnkjdchbhaaDoor
open Go.RowKit
end Go.Proofs.YtennmnkjdchbhaaDoor
