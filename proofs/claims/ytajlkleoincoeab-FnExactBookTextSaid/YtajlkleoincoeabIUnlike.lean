/- impl: Frame.unlike: two frames, place by place. -/
import Derived.Test.YtajlkleoincoeabRows
import Derived.Test.YtajlkleoincoeabFr
namespace Go.Proofs.Ytajlkleoincoeab
open Go.RowKit
end Go.Proofs.Ytajlkleoincoeab
