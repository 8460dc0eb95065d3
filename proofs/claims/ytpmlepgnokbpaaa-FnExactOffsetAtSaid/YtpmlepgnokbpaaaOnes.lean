/- math/bits.OnesCount16. -/
import Derived.Test.YtpmlepgnokbpaaaRows
import Derived.Test.YtpmlepgnokbpaaaFr
import Derived.Test.YtpmlepgnokbpaaaPop
namespace Go.Proofs.Ytpmlepgnokbpaaa
open Go.RowKit
end Go.Proofs.Ytpmlepgnokbpaaa
