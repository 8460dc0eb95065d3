/- spec.l01Dots: all dots, in order, in a slice of its own. -/
import Derived.Test.YtjbjbdkmomkclaaDoorRows
import Derived.Test.YtjbjbdkmomkclaaDoorS1
import Derived.Maps.AppendAt
namespace Go.Proofs.YtjbjbdkmomkclaaDoor
open Go.RowKit
/-- A dot's cells. -/
def dotCells (l : List (Nat × Nat)) : List Value := l.flatMap fun d => [.int .i8 (d.1 : Int), .int .i8 (d.2 : Int)]
theorem dotCells_append (a b : List (Nat × Nat)) : dotCells (a ++ b) = dotCells a ++ dotCells b := by simp [dotCells]
/-- The call hands back a slice of its own, with these dots. -/
def GivesDots (l : List (Nat × Nat)) (w : World) (e : Ending) (w' : World) : Prop := ∃ v, e = .returned v ∧ w'.ownsRow w.heap.size 99 2 v l.length (dotCells l) ∧ Below w.heap.size w w'
theorem infoDot : (Tryd.prog.info? 99).map (fun i => (i.zero, i.size, i.bytes)) = some (some (.agg #[.int .i8 0, .int .i8 0]), 2, 2) := by kernel_rfl
theorem wrap8 {n : Nat} (h : n < 128) : IntKind.i8.wrap (n : Int) = n := by simp [IntKind.wrap, IntKind.bits, IntKind.signed]; omega
end Go.Proofs.YtjbjbdkmomkclaaDoor
