/- TRACKS, PLAINLY: when a track is valid. No program is named. -/
import Derived.Test.YtajlkleoincoeacDoorEaseM
import Derived.Test.YtajlkleoincoeacDoorKey0
namespace Go.Proofs.YtajlkleoincoeacDoor
def inK (k : Int × Int × Int) : Bool := inB k.1 0 200 && (inB k.2.1 (-24) 24 && inB k.2.2 (-24) 24)
/-- A key, and the one ahead of it. -/
def stepK (L : List (Int × Int × Int)) (i : Nat) : Bool := inK (kAt L i) && decide (0 < i → (kAt L (i - 1)).1 < (kAt L i).1)
def okT (L : List (Int × Int × Int)) : Bool := decide (1 ≤ L.length ∧ L.length ≤ 20) && (List.range L.length).all (stepK L)
theorem okT_iff {L : List (Int × Int × Int)} : okT L = true ↔ (1 ≤ L.length ∧ L.length ≤ 20) ∧ ∀ i, i < L.length → stepK L i = true := by
  unfold okT
  rw [Bool.and_eq_true, decide_eq_true_iff, List.all_eq_true]
  simp only [List.mem_range]
theorem okT_len {L : List (Int × Int × Int)} (h : L.length < 1 ∨ 20 < L.length) : okT L = false := by
  unfold okT; rw [decide_eq_false (by omega)]; rfl
theorem okT_at {L : List (Int × Int × Int)} {i : Nat} (hi : i < L.length) (h : stepK L i = false) : okT L = false := by
  cases ho : okT L with
  | false => rfl
  | true => have := (okT_iff.1 ho).2 i hi; rw [h] at this; cases this
theorem stepK_in {L : List (Int × Int × Int)} {i : Nat} (h : inK (kAt L i) = false) : stepK L i = false := by unfold stepK; rw [h]; rfl
theorem stepK_up {L : List (Int × Int × Int)} {i : Nat} (h0 : 0 < i) (h : (kAt L i).1 ≤ (kAt L (i - 1)).1) : stepK L i = false := by
  unfold stepK; rw [decide_eq_false (by intro hh; have := hh h0; omega), Bool.and_false]
theorem stepK_ok {L : List (Int × Int × Int)} {i : Nat} (h : inK (kAt L i) = true) (h2 : 0 < i → (kAt L (i - 1)).1 < (kAt L i).1) : stepK L i = true := by
  unfold stepK; rw [h, decide_eq_true h2]; rfl
theorem inK_t {k : Int × Int × Int} (h : inB k.1 0 200 = false) : inK k = false := by unfold inK; rw [h]; rfl
theorem inK_x {k : Int × Int × Int} (h : inB k.2.1 (-24) 24 = false) : inK k = false := by unfold inK; rw [h, Bool.false_and, Bool.and_false]
theorem inK_y {k : Int × Int × Int} (h : inB k.2.2 (-24) 24 = false) : inK k = false := by unfold inK; rw [h, Bool.and_false, Bool.and_false]
theorem inK_ok {k : Int × Int × Int} (h : inB k.1 0 200 = true) (h2 : inB k.2.1 (-24) 24 = true) (h3 : inB k.2.2 (-24) 24 = true) : inK k = true := by unfold inK; rw [h, h2, h3]; rfl
/-- What a valid track's keys are. -/
theorem okT_key {L : List (Int × Int × Int)} (h : okT L = true) {i : Nat} (hi : i < L.length) : (0 ≤ (kAt L i).1 ∧ (kAt L i).1 ≤ 200) ∧ (-24 ≤ (kAt L i).2.1 ∧ (kAt L i).2.1 ≤ 24) ∧ -24 ≤ (kAt L i).2.2 ∧ (kAt L i).2.2 ≤ 24 := by
  have := (okT_iff.1 h).2 i hi
  unfold stepK inK at this
  simp only [Bool.and_eq_true] at this
  exact ⟨inB_iff.1 this.1.1, inB_iff.1 this.1.2.1, inB_iff.1 this.1.2.2⟩
theorem okT_up {L : List (Int × Int × Int)} (h : okT L = true) {i : Nat} (hi : i + 1 < L.length) : (kAt L i).1 < (kAt L (i + 1)).1 := by
  have := (okT_iff.1 h).2 (i + 1) hi
  unfold stepK at this
  simp only [Bool.and_eq_true, decide_eq_true_iff] at this
  exact this.2 (by omega)
theorem okT_lt {L : List (Int × Int × Int)} (h : okT L = true) {i j : Nat} (hij : i < j) (hj : j < L.length) : (kAt L i).1 < (kAt L j).1 := by
  induction j with
  | zero => omega
  | succ j ih =>
    rcases Nat.lt_succ_iff_lt_or_eq.1 hij with h' | rfl
    · have := ih h' (by omega); have := okT_up h hj; omega
    · exact okT_up h hj
def okTC (L : List (Int × Int × Int)) : Int := if okT L then 0 else 1
theorem okTC_cases (L : List (Int × Int × Int)) : (okT L = false ∧ okTC L = 1) ∨ (okT L = true ∧ okTC L = 0) := by unfold okTC; cases okT L <;> simp
end Go.Proofs.YtajlkleoincoeacDoor
