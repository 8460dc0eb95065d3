/- The laws' own helpers over []int64: eqInt64S, markInt64S, heldInt64S. -/
import Derived.Test.YtjbjbdkmomkclaaRows
import Derived.Test.YtjbjbdkmomkclaaL1
import Derived.Test.YtjbjbdkmomkclaaMem
namespace Go.Proofs.Ytjbjbdkmomkclaa
open Go.RowKit
set_option linter.unusedVariables false
theorem eq_of_getD {α : Type} {z : α} {L M : List α} (hl : L.length = M.length) (h : ∀ j, j < L.length → L.getD j z = M.getD j z) : L = M := by
  apply List.ext_getElem?
  intro i
  by_cases hi : i < L.length
  · have := h i hi
    simp only [List.getD_eq_getElem?_getD, List.getElem?_eq_getElem hi, List.getElem?_eq_getElem (show i < M.length by omega), Option.getD_some] at this
    rw [List.getElem?_eq_getElem hi, List.getElem?_eq_getElem (show i < M.length by omega), this]
  · rw [List.getElem?_eq_none (by omega), List.getElem?_eq_none (by omega)]
theorem getD_get {α : Type} {z : α} {L : List α} {i : Nat} (h : i < L.length) : L[i]? = some (L.getD i z) := by
  rw [List.getD_eq_getElem?_getD, List.getElem?_eq_getElem h]; rfl
/-- A cell of a list of numbers. -/
theorem int_cell {w : World} {k : IntKind} {b o : Nat} {L : List Int} (h : w.rangeAt b o ((eI k).cells L)) {i : Nat} (hi : i < L.length) : w.cell? ⟨b, o + i, none⟩ = some (.int k (L.getD i 0)) := by
  have := range_part h (getD_get (z := 0) hi) 0 _ rfl
  rwa [show (eI k).n = 1 from rfl, Nat.mul_one, Nat.add_zero] at this
theorem own_apart {u v : Value} {B : Nat} (h4 : ∀ k, u.ownBlock = some k → k < B) (h7 : ∀ k, v.ownBlock = some k → B ≤ k) : u.ownBlock = none ∨ u.ownBlock ≠ v.ownBlock := by
  cases hu : u.ownBlock with
  | none => exact .inl rfl
  | some k =>
    refine .inr fun e => ?_
    have := h4 k hu
    have := h7 k e.symm
    omega
end Go.Proofs.Ytjbjbdkmomkclaa
