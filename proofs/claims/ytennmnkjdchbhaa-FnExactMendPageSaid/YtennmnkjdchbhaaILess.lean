/- impl: Frame.less: two frames, place by place. -/
import Derived.Test.YtennmnkjdchbhaaRows
import Derived.Test.YtennmnkjdchbhaaFr
namespace Go.Proofs.Ytennmnkjdchbhaa
open Go.RowKit
end Go.Proofs.Ytennmnkjdchbhaa
