/- ORDERS, PLAINLY: lists that have each number from 0 on once. No program is named. -/
import Derived.Test.YtajlkleoincoeabB2
namespace Go.Proofs.Ytajlkleoincoeab
def memI (l : List Int) (x : Int) : Bool := decide (x ∈ l)
theorem memI_iff {l : List Int} {x : Int} : memI l x = true ↔ x ∈ l := by simp [memI]
theorem memI_false {l : List Int} {x : Int} : memI l x = false ↔ x ∉ l := by simp [memI]
/-- The number at an index. -/
def nAt (O : List Int) (i : Nat) : Int := O.getD i 0
theorem nAt_get {O : List Int} {i : Nat} (h : i < O.length) : O[i]? = some (nAt O i) := by
  unfold nAt; rw [List.getD_eq_getElem?_getD, List.getElem?_eq_getElem h]; rfl
/-- The number at an index is one from 0 to n - 1, and has not been there. -/
def ordAt (n : Nat) (O : List Int) (i : Nat) : Bool := inB (nAt O i) 0 ((n : Int) - 1) && !memI (O.take i) (nAt O i)
def isOB (n : Nat) (O : List Int) : Bool := decide (O.length = n) && (List.range n).all fun i => ordAt n O i
theorem isOB_len {n : Nat} {O : List Int} (h : O.length ≠ n) : isOB n O = false := by simp [isOB, h]
theorem isOB_true {n : Nat} {O : List Int} (hl : O.length = n) (h : ∀ i, i < n → ordAt n O i = true) : isOB n O = true := by
  simp only [isOB, hl, decide_true, Bool.true_and, List.all_eq_true, List.mem_range]
  exact h
theorem isOB_at {n : Nat} {O : List Int} {i : Nat} (hi : i < n) (h : ordAt n O i = false) : isOB n O = false := by
  cases hb : isOB n O with
  | false => rfl
  | true =>
    simp only [isOB, Bool.and_eq_true, List.all_eq_true, List.mem_range] at hb
    rw [hb.2 i hi] at h; cases h
theorem isOB_iff {n : Nat} {O : List Int} : isOB n O = true ↔ O.length = n ∧ ∀ i, i < n → ordAt n O i = true := by
  simp [isOB]
theorem isOB_in {n : Nat} {O : List Int} (h : isOB n O = true) {i : Nat} (hi : i < n) : 0 ≤ nAt O i ∧ nAt O i < n := by
  have := (isOB_iff.1 h).2 i hi
  unfold ordAt at this
  rw [Bool.and_eq_true, inB_iff] at this
  omega
theorem isOB_new {n : Nat} {O : List Int} (h : isOB n O = true) {i : Nat} (hi : i < n) : nAt O i ∉ O.take i := by
  have := (isOB_iff.1 h).2 i hi
  unfold ordAt at this
  rw [Bool.and_eq_true] at this
  have h2 := this.2
  intro hm
  rw [memI_iff.2 hm] at h2
  cases h2
/-- What has been found. -/
theorem mem_take_succ {O : List Int} {k : Nat} (hk : k < O.length) {x : Int} : x ∈ O.take (k + 1) ↔ x ∈ O.take k ∨ x = nAt O k := by
  rw [List.take_succ_eq_append_getElem hk, List.mem_append, List.mem_singleton]
  have : nAt O k = O[k] := by unfold nAt; rw [List.getD_eq_getElem?_getD, List.getElem?_eq_getElem hk]; rfl
  rw [this]
/-- The code of a book and an order. -/
def orC (L : List (Nat → Nat)) (O : List Int) : Int := if okB L then (if isOB L.length O then 0 else 4) else 1
theorem orC_cases (L : List (Nat → Nat)) (O : List Int) : (okB L = false ∧ orC L O = 1) ∨ (okB L = true ∧ isOB L.length O = false ∧ orC L O = 4) ∨ (okB L = true ∧ isOB L.length O = true ∧ orC L O = 0) := by
  unfold orC; cases okB L <;> cases isOB L.length O <;> simp
/-- The pages in an order. -/
def pgL (L : List (Nat → Nat)) (O : List Int) : List (Nat → Nat) := tab (fun i => fAt L (nAt O i).toNat) O.length
theorem pgL_len (L : List (Nat → Nat)) (O : List Int) : (pgL L O).length = O.length := tab_length _ _
theorem pgL_at {L : List (Nat → Nat)} {O : List Int} {i : Nat} (h : i < O.length) : fAt (pgL L O) i = fAt L (nAt O i).toNat := fAt_of (tab_get _ h)
theorem pgL_lt {L : List (Nat → Nat)} (hL : ltL L) (O : List Int) : ltL (pgL L O) := by
  intro f hf
  obtain ⟨i, _, rfl⟩ := List.mem_map.1 hf
  exact fAt_lt hL _
theorem pgL_ok {L : List (Nat → Nat)} {O : List Int} (ho : okB L = true) (hO : isOB L.length O = true) : okB (pgL L O) = true := by
  have h1 := okB_iff.1 ho
  have h2 := isOB_iff.1 hO
  refine okB_iff.2 ⟨by rw [pgL_len, h2.1]; exact h1.1, fun i hi => ?_⟩
  rw [pgL_len] at hi
  rw [pgL_at hi]
  have h3 := isOB_in hO (i := i) (by omega)
  exact h1.2 _ (by omega)
/-- Where each number stands, behind k of them. -/
def oppF (O : List Int) : Nat → Nat → Int
  | 0 => fun _ => 0
  | k + 1 => fun i => if i = (nAt O k).toNat then (k : Int) else oppF O k i
theorem oppF_bounds (O : List Int) : ∀ k i, 0 ≤ oppF O k i ∧ oppF O k i ≤ k
  | 0, _ => by simp [oppF]
  | k + 1, i => by
    have := oppF_bounds O k i
    unfold oppF
    split <;> omega
def oppL (O : List Int) : List Int := tab (oppF O O.length) O.length
def opC (O : List Int) : Int := if O.length ≤ 40 then (if isOB O.length O then 0 else 4) else 3
theorem opC_cases (O : List Int) : (40 < O.length ∧ opC O = 3) ∨ (O.length ≤ 40 ∧ isOB O.length O = false ∧ opC O = 4) ∨ (O.length ≤ 40 ∧ isOB O.length O = true ∧ opC O = 0) := by
  unfold opC
  by_cases h : O.length ≤ 40
  · cases isOB O.length O <;> simp [h]
  · simp [h]; omega
end Go.Proofs.Ytajlkleoincoeab
