/- spec.l01Dots: all dots, in order, in a slice of its own. -/
import Derived.Test.YtajlkleoincoeabRows
import Derived.Test.YtajlkleoincoeabS1
import Derived.Maps.AppendAt
namespace Go.Proofs.Ytajlkleoincoeab
open Go.RowKit
/-- A dot's cells. -/
def dotCells (l : List (Nat × Nat)) : List Value := l.flatMap fun d => [.int .i8 (d.1 : Int), .int .i8 (d.2 : Int)]
theorem dotCells_append (a b : List (Nat × Nat)) : dotCells (a ++ b) = dotCells a ++ dotCells b := by simp [dotCells]
theorem wrap8 {n : Nat} (h : n < 128) : IntKind.i8.wrap (n : Int) = n := by simp [IntKind.wrap, IntKind.bits, IntKind.signed]; omega
end Go.Proofs.Ytajlkleoincoeab
