/- WithDot, of spec and of impl. -/
import Derived.Test.YtjbjbdkmomkclaaRows
import Derived.Test.YtjbjbdkmomkclaaS1
import Derived.Test.YtjbjbdkmomkclaaIPlace
import Derived.Test.YtjbjbdkmomkclaaILess
namespace Go.Proofs.Ytjbjbdkmomkclaa
open Go.RowKit
end Go.Proofs.Ytjbjbdkmomkclaa
