/- TEXTS OF ORDERS: OrderText, spec and impl. -/
import Derived.Test.YtajlkleoincoeabRows
import Derived.Test.YtajlkleoincoeabTxI
import Derived.Test.YtajlkleoincoeabDec
import Derived.Test.YtajlkleoincoeabOrdM
import Derived.Test.YtajlkleoincoeabLI64
namespace Go.Proofs.Ytajlkleoincoeab
open Go.RowKit
set_option linter.unusedVariables false
set_option linter.unusedSimpArgs false
def wdO (O : List Int) : List (List UInt8) := O.map fun z => dcL z.toNat
theorem wdO_get {O : List Int} {k : Nat} (h : k < O.length) : (wdO O)[k]? = some (dcL (nAt O k).toNat) := by
  unfold wdO; rw [List.getElem?_map, nAt_get h]; rfl
theorem wdO_len (O : List Int) : (wdO O).length = O.length := List.length_map _
/-- Whether an order has a text. -/
def otB (O : List Int) : Bool := decide (O.length ≤ 40) && O.all fun z => inB z 0 39
def otT (O : List Int) : List UInt8 := if otB O then joinW 32 (wdO O) else []
theorem ret_str {a b : List UInt8} (h : a = b) : Ending.returned (.string (bsOf a)) = .returned (.string (bsOf b)) := by rw [h]
theorem all_nAt {O : List Int} {p : Int → Bool} : O.all p = true ↔ ∀ i, i < O.length → p (nAt O i) = true := by
  rw [List.all_eq_true]
  constructor
  · intro h i hi
    exact h _ (List.mem_of_getElem? (nAt_get hi))
  · intro h x hx
    obtain ⟨i, hi⟩ := List.getElem?_of_mem hx
    have hl := (List.getElem?_eq_some_iff.1 hi).1
    have := nAt_get hl
    rw [hi] at this
    rw [Option.some.inj this]; exact h i hl
theorem otB_iff {O : List Int} : otB O = true ↔ O.length ≤ 40 ∧ ∀ i, i < O.length → 0 ≤ nAt O i ∧ nAt O i ≤ 39 := by
  unfold otB
  rw [Bool.and_eq_true, all_nAt]
  simp only [decide_eq_true_eq, inB_iff]
theorem otT_bad {O : List Int} (h : ¬ (O.length ≤ 40 ∧ ∀ i, i < O.length → 0 ≤ nAt O i ∧ nAt O i ≤ 39)) : otT O = [] := by
  unfold otT; rw [if_neg (fun e => h (otB_iff.1 e))]
theorem otT_good {O : List Int} (h : O.length ≤ 40 ∧ ∀ i, i < O.length → 0 ≤ nAt O i ∧ nAt O i ≤ 39) : otT O = joinW 32 (wdO O) := by
  unfold otT; rw [if_pos (otB_iff.2 h)]
theorem wdO_word {O : List Int} (h : ∀ i, i < O.length → 0 ≤ nAt O i ∧ nAt O i ≤ 39) : ∀ x ∈ wdO O, x.length ≤ 2 := by
  intro x hx
  obtain ⟨i, hi⟩ := List.getElem?_of_mem hx
  have hl : i < O.length := by have := (List.getElem?_eq_some_iff.1 hi).1; rwa [wdO_len] at this
  rw [wdO_get hl] at hi
  cases hi
  exact dcL_len2 (by have := h i hl; omega)
end Go.Proofs.Ytajlkleoincoeab
