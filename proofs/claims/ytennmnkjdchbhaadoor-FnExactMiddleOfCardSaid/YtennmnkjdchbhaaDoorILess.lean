/- impl: Frame.less: two frames, place by place. -/
import Derived.Test.YtennmnkjdchbhaaDoorRows
import Derived.Test.YtennmnkjdchbhaaDoorFr
namespace Go.Proofs.YtennmnkjdchbhaaDoor
open Go.RowKit
end Go.Proofs.YtennmnkjdchbhaaDoor
