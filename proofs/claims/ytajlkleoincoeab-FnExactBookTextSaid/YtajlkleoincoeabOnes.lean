/- math/bits.OnesCount16. -/
import Derived.Test.YtajlkleoincoeabRows
import Derived.Test.YtajlkleoincoeabFr
import Derived.Test.YtajlkleoincoeabPop
namespace Go.Proofs.Ytajlkleoincoeab
open Go.RowKit
end Go.Proofs.Ytajlkleoincoeab
