/- spec: l01Way, l01Moved, MoveFrame. -/
import Derived.Test.YtennmnkjdchbhacDoorRows
import Derived.Test.YtennmnkjdchbhacDoorS1
import Derived.Test.YtennmnkjdchbhacDoorDots
import Derived.Test.YtennmnkjdchbhacDoorPut
namespace Go.Proofs.YtennmnkjdchbhacDoor
open Go.RowKit
set_option linter.unusedVariables false
/-- The cells of a slice of dots that the call owns. -/
theorem dot_cells {w : World} {base g cap : Nat} {t : TypeId} {l : List (Nat × Nat)} (h : w.ownsRow base t 2 (.slice (some ⟨g, 0, none⟩) l.length cap) l.length (dotCells l)) {i : Nat} {d : Nat × Nat} (hi : l[i]? = some d) :
    w.cell? ⟨g, i * 2, none⟩ = some (.int .i8 (d.1 : Int)) ∧ w.cell? ⟨g, i * 2 + 1, none⟩ = some (.int .i8 (d.2 : Int)) := by
  have hlt : i < l.length := (List.getElem?_eq_some_iff.1 hi).1
  have key : ∀ (l : List (Nat × Nat)) (i : Nat) (d : Nat × Nat), l[i]? = some d → (dotCells l)[i * 2]? = some (.int .i8 (d.1 : Int)) ∧ (dotCells l)[i * 2 + 1]? = some (.int .i8 (d.2 : Int)) := by
    intro l
    induction l with
    | nil => intro i d h; simp at h
    | cons a l ih =>
      intro i d h
      cases i with
      | zero => simp at h; subst h; exact ⟨rfl, rfl⟩
      | succ i =>
        have h' : l[i]? = some d := by simpa using h
        obtain ⟨k1, k2⟩ := ih i d h'
        have e : dotCells (a :: l) = [.int .i8 (a.1 : Int), .int .i8 (a.2 : Int)] ++ dotCells l := rfl
        rw [e, show (i + 1) * 2 = (i * 2) + 1 + 1 by omega]
        exact ⟨by simpa using k1, by simpa using k2⟩
  obtain ⟨k1, k2⟩ := key l i d hi
  exact ⟨by rw [h.cellAt (i * 2) (by omega), k1], by rw [h.cellAt (i * 2 + 1) (by omega), k2]⟩
theorem dots_shape {w : World} {base : Nat} {t : TypeId} {v : Value} {l : List (Nat × Nat)} (h : w.ownsRow base t 2 v l.length (dotCells l)) :
    ∃ p cap, v = .slice p l.length cap ∧ ∀ i d, l[i]? = some d → ∃ g, p = some ⟨g, 0, none⟩ ∧ w.cell? ⟨g, i * 2, none⟩ = some (.int .i8 (d.1 : Int)) ∧ w.cell? ⟨g, i * 2 + 1, none⟩ = some (.int .i8 (d.2 : Int)) := by
  have h' := h
  obtain ⟨_, ⟨rfl, hl⟩ | ⟨g, cap, cur, rfl, _⟩⟩ := h
  · refine ⟨none, 0, by rw [hl], ?_⟩
    intro i d hi
    have := (List.getElem?_eq_some_iff.1 hi).1
    omega
  · refine ⟨some ⟨g, 0, none⟩, cap, rfl, ?_⟩
    intro i d hi
    obtain ⟨k1, k2⟩ := dot_cells h' hi
    exact ⟨g, rfl, k1, k2⟩
theorem Wrote.grown {B : Nat} {w w' : World} (k : Wrote B w w') : w.grownBy w' (some B) := ⟨k.os, k.tape, k.output, k.size, fun i hi hn => k.block i hi (fun e => hn (by rw [e]))⟩
theorem below_grownBy {w w' : World} (k : Below w.heap.size w w') (row : Option Nat) : w.grownBy w' row := ⟨k.os, k.tape, k.output, k.size, fun i hi _ => k.block i hi⟩
end Go.Proofs.YtennmnkjdchbhacDoor
