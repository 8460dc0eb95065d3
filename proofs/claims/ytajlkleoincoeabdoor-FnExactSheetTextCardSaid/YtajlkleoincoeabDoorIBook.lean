/- impl: ValidBook, slices.Equal, SameBook, listBy, Book.jump, sumOf, JumpsOf, AllJumps, LoopJumps. -/
import Derived.Test.YtajlkleoincoeabDoorRows
import Derived.Test.YtajlkleoincoeabDoorSBook
import Derived.Test.YtajlkleoincoeabDoorSJumps
import Derived.Test.YtajlkleoincoeabDoorIValid
import Derived.Test.YtajlkleoincoeabDoorIUnlike
namespace Go.Proofs.YtajlkleoincoeabDoor
open Go.RowKit
set_option linter.unusedVariables false
set_option linter.unusedSimpArgs false
end Go.Proofs.YtajlkleoincoeabDoor
