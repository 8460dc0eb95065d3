/- BOOKS, PLAINLY: lists of frames, their jumps, sums, reversals. No program is named. -/
import Derived.Test.YtjbjbdkmomkclaaPop
namespace Go.Proofs.Ytjbjbdkmomkclaa
set_option linter.unusedVariables false
def fAt (L : List (Nat → Nat)) (i : Nat) : Nat → Nat := L.getD i zeroF
theorem fAt_get {L : List (Nat → Nat)} {i : Nat} (h : i < L.length) : L[i]? = some (fAt L i) := by simp [fAt, h]
theorem fAt_of {L : List (Nat → Nat)} {i : Nat} {f : Nat → Nat} (h : L[i]? = some f) : fAt L i = f := by simp [fAt, List.getD_eq_getElem?_getD, h]
def ltL (L : List (Nat → Nat)) : Prop := ∀ f ∈ L, ∀ k, f k < 65536
theorem fAt_lt {L : List (Nat → Nat)} (h : ltL L) (i : Nat) : ∀ k, fAt L i k < 65536 := by
  by_cases hi : i < L.length
  · exact h _ (List.mem_of_getElem? (fAt_get hi))
  · have : fAt L i = zeroF := by simp [fAt, List.getD_eq_getElem?_getD, List.getElem?_eq_none (Nat.le_of_not_lt hi)]
    rw [this]; exact zeroF_lt
def okB (L : List (Nat → Nat)) : Bool := decide (L.length ≤ 40) && L.all okF
theorem okB_iff {L : List (Nat → Nat)} : okB L = true ↔ L.length ≤ 40 ∧ ∀ i, i < L.length → okF (fAt L i) = true := by
  simp only [okB, Bool.and_eq_true, decide_eq_true_eq, List.all_eq_true]
  constructor
  · rintro ⟨h1, h2⟩; exact ⟨h1, fun i hi => h2 _ (List.mem_of_getElem? (fAt_get hi))⟩
  · rintro ⟨h1, h2⟩
    refine ⟨h1, fun f hf => ?_⟩
    obtain ⟨i, hi⟩ := List.getElem?_of_mem hf
    have hlt := (List.getElem?_eq_some_iff.1 hi).1
    have := h2 i hlt
    rwa [fAt_of hi] at this
theorem okB_false_len {L : List (Nat → Nat)} (h : 40 < L.length) : okB L = false := by
  rw [← Bool.not_eq_true, okB_iff]; omega
theorem okB_false_at {L : List (Nat → Nat)} {i : Nat} (hi : i < L.length) (h : okF (fAt L i) = false) : okB L = false := by
  rw [← Bool.not_eq_true, okB_iff]
  rintro ⟨_, h2⟩
  have := h2 i hi
  rw [h] at this; cases this
theorem okB_false_iff {L : List (Nat → Nat)} : okB L = false ↔ 40 < L.length ∨ ∃ i, i < L.length ∧ okF (fAt L i) = false := by
  constructor
  · intro h
    apply Classical.byContradiction
    intro hn
    have : okB L = true := okB_iff.2 ⟨by omega, fun i hi => by
      cases ho : okF (fAt L i) with
      | true => rfl
      | false => exact absurd (Or.inr ⟨i, hi, ho⟩) hn⟩
    rw [this] at h; cases h
  · rintro (h | ⟨i, hi, h⟩)
    · exact okB_false_len h
    · exact okB_false_at hi h
/-- The code of a book. -/
def okBC (L : List (Nat → Nat)) : Int := if okB L then 0 else 1
theorem okBC_cases (L : List (Nat → Nat)) : (okB L = false ∧ okBC L = 1) ∨ (okB L = true ∧ okBC L = 0) := by unfold okBC; cases okB L <;> simp
/-- A list, if the code is 0. -/
def ifL {α : Type} (c : Int) (l : List α) : List α := if c = 0 then l else []
theorem ifL0 {α : Type} (l : List α) : ifL 0 l = l := rfl
theorem ifL1 {α : Type} {c : Int} (l : List α) (h : c ≠ 0) : ifL c l = [] := if_neg h
def ifI (c : Int) (n : Int) : Int := if c = 0 then n else 0
theorem ifI0 (n : Int) : ifI 0 n = n := rfl
theorem ifI1 {c : Int} (n : Int) (h : c ≠ 0) : ifI c n = 0 := if_neg h
/-- By how many dots two frames differ. -/
def difN (f g : Nat → Nat) : Nat := popSum (unlikeF f g) 12
theorem difN_le (f g : Nat → Nat) : difN f g ≤ 192 := popSum_le _ 12
/-- The jump from a page to the page behind it; behind the last page is the first one. -/
def jmp (L : List (Nat → Nat)) (i : Nat) : Int := difN (fAt L i) (fAt L ((i + 1) % L.length))
theorem jmp_bounds (L : List (Nat → Nat)) (i : Nat) : 0 ≤ jmp L i ∧ jmp L i ≤ 192 := by
  have := difN_le (fAt L i) (fAt L ((i + 1) % L.length)); unfold jmp; omega
theorem jmp_in {L : List (Nat → Nat)} {i : Nat} (h : i + 1 < L.length) : jmp L i = difN (fAt L i) (fAt L (i + 1)) := by unfold jmp; rw [Nat.mod_eq_of_lt h]
theorem jmp_last {L : List (Nat → Nat)} (h : 0 < L.length) : jmp L (L.length - 1) = difN (fAt L (L.length - 1)) (fAt L 0) := by
  unfold jmp; rw [show L.length - 1 + 1 = L.length by omega, Nat.mod_self]
/-- The values of a function at 0, 1 .. n - 1. -/
def tab {α : Type} (f : Nat → α) (n : Nat) : List α := (List.range n).map f
theorem tab_zero {α : Type} (f : Nat → α) : tab f 0 = [] := rfl
theorem tab_succ {α : Type} (f : Nat → α) (n : Nat) : tab f (n + 1) = tab f n ++ [f n] := by simp [tab, List.range_succ]
theorem tab_length {α : Type} (f : Nat → α) (n : Nat) : (tab f n).length = n := by simp [tab]
theorem tab_get {α : Type} (f : Nat → α) {n i : Nat} (h : i < n) : (tab f n)[i]? = some (f i) := by simp [tab, h]
theorem tab_congr {α : Type} {f g : Nat → α} {n : Nat} (h : ∀ i, i < n → f i = g i) : tab f n = tab g n := by
  unfold tab; exact List.map_congr_left fun i hi => h i (List.mem_range.1 hi)
theorem tab_fAt (L : List (Nat → Nat)) : tab (fAt L) L.length = L := by
  apply List.ext_getElem?
  intro i
  by_cases hi : i < L.length
  · rw [tab_get _ hi, fAt_get hi]
  · rw [List.getElem?_eq_none (by rw [tab_length]; omega), List.getElem?_eq_none (by omega)]
def jumpsL (L : List (Nat → Nat)) : List Int := tab (jmp L) (L.length - 1)
def sumI : List Int → Int
  | [] => 0
  | x :: l => x + sumI l
theorem sumI_append (l m : List Int) : sumI (l ++ m) = sumI l + sumI m := by
  induction l with
  | nil => simp [sumI]
  | cons x l ih => simp only [List.cons_append, sumI, ih]; omega
theorem sumI_bounds {l : List Int} {n : Int} (hn : 0 ≤ n) (h : ∀ x ∈ l, 0 ≤ x ∧ x ≤ n) : 0 ≤ sumI l ∧ sumI l ≤ n * l.length := by
  induction l with
  | nil => simp [sumI]
  | cons x l ih =>
    have h1 := ih (fun y hy => h y (by simp [hy]))
    have h2 := h x (by simp)
    simp only [sumI, List.length_cons, Int.natCast_add, Int.mul_add]
    omega
theorem sumI_take (l : List Int) {k : Nat} {x : Int} (h : l[k]? = some x) : sumI (l.take (k + 1)) = sumI (l.take k) + x := by
  rw [List.take_add_one, h, sumI_append]; simp [sumI]
theorem loop_sum (L : List (Nat → Nat)) : sumI (tab (jmp L) L.length) = if L.length = 0 then 0 else sumI (jumpsL L) + difN (fAt L (L.length - 1)) (fAt L 0) := by
  by_cases h : L.length = 0
  · rw [if_pos h, h]; rfl
  · rw [if_neg h, ← jmp_last (by omega)]
    obtain ⟨m, hm⟩ : ∃ m, L.length = m + 1 := ⟨L.length - 1, by omega⟩
    unfold jumpsL
    rw [hm, tab_succ, sumI_append]
    simp [sumI]
/-- Two books are equal. -/
def eqB (L M : List (Nat → Nat)) : Bool := L.length == M.length && (List.range L.length).all fun i => eqF (fAt L i) (fAt M i)
theorem eqB_refl (L : List (Nat → Nat)) : eqB L L = true := by simp [eqB, eqF_refl]
theorem eqB_len {L M : List (Nat → Nat)} (h : L.length ≠ M.length) : eqB L M = false := by simp [eqB, h]
theorem eqB_iff {L M : List (Nat → Nat)} (h : L.length = M.length) : eqB L M = true ↔ ∀ i, i < L.length → eqF (fAt L i) (fAt M i) = true := by simp [eqB, h]
theorem eqB_false {L M : List (Nat → Nat)} {i : Nat} (hi : i < L.length) (h : eqF (fAt L i) (fAt M i) = false) : eqB L M = false := by
  by_cases hl : L.length = M.length
  · rw [← Bool.not_eq_true, eqB_iff hl]
    intro hh
    have := hh i hi
    rw [h] at this; cases this
  · exact eqB_len hl
end Go.Proofs.Ytjbjbdkmomkclaa
