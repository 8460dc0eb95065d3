/- TRACKS: when a track is valid. spec: l03Tick, l03Reach, l03Ok, ValidTrack; impl: isTick, isWithin, ValidTrack. TicksOf: both. -/
import Derived.Test.YtennmnkjdchbhaaDoorTrackM
import Derived.Test.YtennmnkjdchbhaaDoorS1
import Derived.Test.YtennmnkjdchbhaaDoorQuiet
namespace Go.Proofs.YtennmnkjdchbhaaDoor
open Go.RowKit
set_option linter.unusedVariables false
set_option linter.unusedSimpArgs false
end Go.Proofs.YtennmnkjdchbhaaDoor
