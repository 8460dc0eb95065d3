/- The laws' own helpers: toFrame, eqFrame. -/
import Derived.Test.YtoccklhfiojemaaDoorRows
import Derived.Test.YtoccklhfiojemaaDoorFr
namespace Go.Proofs.YtoccklhfiojemaaDoor
open Go.RowKit
end Go.Proofs.YtoccklhfiojemaaDoor
