/- RANGES OVER FUNCTIONS: what blocks of cells keep while a loop's records turn; the way out of a function that holds such a loop. No function of the program is named. -/
import Derived.Test.YtkcomhbmhgnhhaaFr
import Derived.Test.YtkcomhbmhgnhhaaRound
namespace Go.Proofs.Ytkcomhbmhgnhhaa
open Go.RowKit
set_option linter.unusedVariables false
theorem keepsO_below {W W' : World} (h : Below W.heap.size W W') : KeepsOthers W W' := ⟨h.size, fun k o hk _ => (h.block k (Array.getElem?_eq_some_iff.1 hk).1).trans hk⟩
theorem keepsO_setRow {W : World} {g : Nat} {cs0 : Array Value} {t : TypeId} {fr : Nat × Nat} (h : W.heap[g]? = some (.cells cs0 t fr)) (cs : Array Value) : KeepsOthers W (W.setRow g cs) := by
  refine ⟨by simp [World.setRow], fun k o hk ho => ?_⟩
  by_cases e : k = g
  · subst e; rw [h] at hk; cases hk; cases ho
  · exact (setRow_other W g k cs e).trans hk
theorem Blk.kept {W W' : World} {row : Option Nat} {g : Nat} {t : TypeId} {f : Nat → Nat} (h : Blk W g t f) (hg : W.grownBy W' row) (hr : ∀ r, row = some r → ∃ o : Obj, W.heap[r]? = some o ∧ o.isCells = false) : Blk W' g t f :=
  (hg.block g h.lt (fun e => by obtain ⟨o, ho, hc⟩ := hr g e.symm; rw [show W.heap[g]? = _ from h] at ho; cases ho; cases hc)).trans h
theorem Row.kept {W W' : World} {row : Option Nat} {g : Nat} {t : TypeId} {cs : Array Value} (h : Row W g t cs) (hg : W.grownBy W' row) (hr : ∀ r, row = some r → ∃ o : Obj, W.heap[r]? = some o ∧ o.isCells = false) : Row W' g t cs :=
  (hg.block g h.lt (fun e => by obtain ⟨o, ho, hc⟩ := hr g e.symm; rw [show W.heap[g]? = _ from h] at ho; cases ho; cases hc)).trans h
theorem blk_own {β : Type} (B : Nat) (t : TypeId) (f : β → Nat → Nat) : Own (fun s W => Blk W B t (f s)) := fun s X Y row hs hg hr => hs.kept hg hr
theorem row_own {β : Type} (B : Nat) (t : TypeId) (f : β → Array Value) : Own (fun s W => Row W B t (f s)) := fun s X Y row hs hg hr => hs.kept hg hr
/-- Behind the turn of the block for the rounds' deferred calls. -/
theorem Blk.put {W : World} {g D : Nat} {t : TypeId} {f : Nat → Nat} {o : Obj} (h : Blk W g t f) (o' : Obj) (hD : W.heap[D]? = some o) (ho : o.isCells = false) : Blk (W.putObj D o') g t f :=
  h.kept (grownBy_putObj' W D o') (fun r e => by cases e; exact ⟨o, hD, ho⟩)
theorem Row.put {W : World} {g D : Nat} {t : TypeId} {cs : Array Value} {o : Obj} (h : Row W g t cs) (o' : Obj) (hD : W.heap[D]? = some o) (ho : o.isCells = false) : Row (W.putObj D o') g t cs :=
  h.kept (grownBy_putObj' W D o') (fun r e => by cases e; exact ⟨o, hD, ho⟩)
theorem below_put {S D : Nat} {a W : World} {o : Obj} (h : Below S a W) (o' : Obj) (hD : W.heap[D]? = some o) (hS : S ≤ D) : Below S a (W.putObj D o') := by
  have hlt := (Array.getElem?_eq_some_iff.1 hD).1
  exact h.trans ((Below.refl S W).grown (grownBy_putObj' W D o') (by omega) (fun k e => by cases e; exact hS))
end Go.Proofs.Ytkcomhbmhgnhhaa
