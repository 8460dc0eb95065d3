/- The laws' own helpers: toFrame, eqFrame. -/
import Derived.Test.YtoccklhfiojemaaRows
import Derived.Test.YtoccklhfiojemaaFr
namespace Go.Proofs.Ytoccklhfiojemaa
open Go.RowKit
end Go.Proofs.Ytoccklhfiojemaa
