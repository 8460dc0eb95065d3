/- impl: Frame.less: two frames, place by place. -/
import Derived.Test.YtjbjbdkmomkclaaRows
import Derived.Test.YtjbjbdkmomkclaaFr
namespace Go.Proofs.Ytjbjbdkmomkclaa
open Go.RowKit
end Go.Proofs.Ytjbjbdkmomkclaa
