/- TRACKS, the program: ValidTrack, slices.Equal, SameTrack, last, TicksOf. -/
import Derived.Test.YtennmnkjdchbhaaDoorTrack
import Derived.Test.YtennmnkjdchbhaaDoorIWithin
import Derived.Test.YtennmnkjdchbhaaDoorLI64
import Derived.Laws.StructEq
namespace Go.Proofs.YtennmnkjdchbhaaDoor
open Go.RowKit
set_option linter.unusedVariables false
set_option linter.unusedSimpArgs false
end Go.Proofs.YtennmnkjdchbhaaDoor
