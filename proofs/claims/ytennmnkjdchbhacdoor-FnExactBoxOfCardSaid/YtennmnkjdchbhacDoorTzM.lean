/- THE LOWEST AND THE HIGHEST SET BIT, PLAINLY. No program is named. -/
import Derived.Test.YtennmnkjdchbhacDoorMath
namespace Go.Proofs.YtennmnkjdchbhacDoor
/-- Bit t is the lowest set bit of n. -/
def LowBit (n t : Nat) : Prop := n.testBit t = true ∧ ∀ i, i < t → n.testBit i = false
theorem lowBit_ex {n m : Nat} (h : n < 2 ^ m) (h0 : n ≠ 0) : ∃ t, t < m ∧ LowBit n t := by
  induction m generalizing n with
  | zero => simp at h; omega
  | succ m ih =>
    cases hb : n.testBit 0 with
    | true => exact ⟨0, by omega, hb, fun i hi => by omega⟩
    | false =>
      have h2 : n % 2 = 0 := by
        have := Nat.testBit_zero n
        rw [hb] at this
        have := of_decide_eq_false this.symm
        omega
      obtain ⟨t, ht, h1, h3⟩ := ih (n := n / 2) (by rw [Nat.pow_succ] at h; omega) (by omega)
      refine ⟨t + 1, by omega, by rw [Nat.testBit_succ]; exact h1, fun i hi => ?_⟩
      cases i with
      | zero => exact hb
      | succ i => rw [Nat.testBit_succ]; exact h3 i (by omega)
theorem lowBit_form {n t : Nat} (h : LowBit n t) : ∃ q, n = 2 ^ (t + 1) * q + 2 ^ t := by
  refine ⟨n / 2 ^ (t + 1), Nat.eq_of_testBit_eq fun i => ?_⟩
  rw [Nat.testBit_two_pow_mul_add _ (Nat.pow_lt_pow_right (by decide) (Nat.lt_succ_self t))]
  split
  · rw [Nat.testBit_two_pow]
    by_cases e : t = i
    · subst e; simp [h.1]
    · simp [e, h.2 i (by omega)]
  · rw [Nat.testBit_div_two_pow]
    congr 1; omega
theorem lowBit_pred {n t : Nat} (h : LowBit n t) (i : Nat) : (n - 1).testBit i = if i < t then true else if i = t then false else n.testBit i := by
  obtain ⟨q, hq⟩ := lowBit_form h
  have hp : 0 < 2 ^ t := Nat.two_pow_pos t
  have hp2 : 2 ^ t < 2 ^ (t + 1) := Nat.pow_lt_pow_right (by decide) (Nat.lt_succ_self t)
  have h1 : n - 1 = 2 ^ (t + 1) * q + (2 ^ t - 1) := by omega
  rw [h1, Nat.testBit_two_pow_mul_add _ (by omega), hq, Nat.testBit_two_pow_mul_add _ hp2]
  by_cases hi : i < t
  · rw [if_pos (by omega), if_pos hi, Nat.testBit_two_pow_sub_one]; simp [hi]
  · by_cases he : i = t
    · subst he; rw [if_pos (by omega), if_neg hi, if_pos rfl, Nat.testBit_two_pow_sub_one]; simp
    · rw [if_neg (by omega), if_neg hi, if_neg he, if_neg (by omega)]
theorem lowBit_and_neg {n t : Nat} (h : LowBit n t) (hn : n < 65536) : n &&& (65536 - n) = 2 ^ t := by
  have h0 : n ≠ 0 := by rintro rfl; simp [LowBit] at h
  have hn1 : n - 1 < 2 ^ 16 := by omega
  apply Nat.eq_of_testBit_eq
  intro i
  rw [Nat.testBit_and, show 65536 - n = 2 ^ 16 - ((n - 1) + 1) by omega, Nat.testBit_two_pow_sub_succ hn1, lowBit_pred h, Nat.testBit_two_pow]
  by_cases hi : i < t
  · simp [hi, h.2 i hi]; omega
  · by_cases he : i = t
    · subst he
      have : i < 16 := by
        rcases Nat.lt_or_ge i 16 with h' | h'
        · exact h'
        · have := Nat.testBit_lt_two_pow (x := n) (i := i) (Nat.lt_of_lt_of_le hn (show 2 ^ 16 ≤ 2 ^ i from Nat.pow_le_pow_right (by decide) h'))
          rw [h.1] at this; cases this
      simp [h.1, this]
    · simp only [hi, he, if_false]
      have : decide (t = i) = false := by simp; omega
      rw [this]
      cases n.testBit i <;> simp
theorem lowBit_clear {n t : Nat} (h : LowBit n t) (i : Nat) : (n &&& (n - 1)).testBit i = (n.testBit i && decide (i ≠ t)) := by
  rw [Nat.testBit_and, lowBit_pred h]
  by_cases hi : i < t
  · simp [hi, h.2 i hi]
  · by_cases he : i = t
    · subst he; simp
    · simp [hi, he]
theorem lowBit_lt {n t m : Nat} (h : LowBit n t) (hn : n < 2 ^ m) : t < m := by
  rcases Nat.lt_or_ge t m with h' | h'
  · exact h'
  · have := Nat.testBit_lt_two_pow (x := n) (i := t) (Nat.lt_of_lt_of_le hn (Nat.pow_le_pow_right (by decide) h'))
    rw [h.1] at this; cases this
/-- The bits of n from m on. -/
def hiB (n m : Nat) : Nat := n / 2 ^ m * 2 ^ m
theorem hiB_bit (n m i : Nat) : (hiB n m).testBit i = (decide (m ≤ i) && n.testBit i) := by
  unfold hiB
  rw [Nat.mul_comm, Nat.testBit_two_pow_mul, Nat.testBit_div_two_pow]
  by_cases h : m ≤ i
  · simp [h]
  · simp [h]
theorem hiB_zero (n : Nat) : hiB n 0 = n := by simp [hiB]
theorem hiB_le (n m : Nat) : hiB n m ≤ n := Nat.div_mul_le_self _ _
theorem hiB_next {n m t : Nat} (h : LowBit (hiB n m) t) : hiB n m &&& (hiB n m - 1) = hiB n (t + 1) := by
  apply Nat.eq_of_testBit_eq
  intro i
  rw [lowBit_clear h, hiB_bit, hiB_bit]
  have h1 := h.1
  rw [hiB_bit] at h1
  simp at h1
  by_cases hi : i < t
  · have h2 := h.2 i hi
    rw [hiB_bit] at h2
    rw [h2]
    simp
    intro; omega
  · by_cases he : i = t
    · subst he
      have : decide (i + 1 ≤ i) = false := by simp
      rw [this]; simp
    · have : t + 1 ≤ i := by omega
      have h3 : m ≤ i := by omega
      simp [he, this, h3]
theorem dotsTo_skip (f : Nat → Nat) (y m : Nat) : ∀ t, m ≤ t → t ≤ 12 → (∀ i, m ≤ i → i < t → (f y).testBit i = false) → dotsTo f (12 * y + t) = dotsTo f (12 * y + m) := by
  intro t
  induction t with
  | zero =>
    intro h _ _
    obtain rfl : m = 0 := (by omega)
    rfl
  | succ t ih =>
    intro h1 h2 h3
    rcases Nat.lt_or_ge t m with h | h
    · obtain rfl : m = t + 1 := (by omega)
      rfl
    · rw [dotsTo_step f (by omega), h3 t h (by omega), ih h (by omega) (fun i hi hj => h3 i hi (by omega))]; simp
theorem bitlt12 {n t : Nat} (h : n.testBit t = true) (hn : n ≤ 4095) : t < 12 := by
  rcases Nat.lt_or_ge t 12 with h' | h'
  · exact h'
  · have := Nat.testBit_lt_two_pow (x := n) (i := t) (Nat.lt_of_lt_of_le (show n < 2 ^ 12 by omega) (Nat.pow_le_pow_right (by decide) h'))
    rw [h] at this; cases this
/-- The next dot of a row. -/
theorem dotsTo_next {f : Nat → Nat} {y m t : Nat} (hf : f y ≤ 4095) (h : LowBit (hiB (f y) m) t) : m ≤ t ∧ t < 12 ∧ dotsTo f (12 * y + (t + 1)) = dotsTo f (12 * y + m) ++ [(t, y)] := by
  have hb := h.1
  rw [hiB_bit] at hb
  simp at hb
  have ht : t < 12 := bitlt12 hb.2 hf
  refine ⟨hb.1, ht, ?_⟩
  rw [dotsTo_step f ht, hb.2, dotsTo_skip f y m t hb.1 (by omega) (fun i hi hj => by have := h.2 i hj; rw [hiB_bit] at this; simpa [hi] using this)]
  rfl
/-- A row without more dots. -/
theorem dotsTo_row_end {f : Nat → Nat} {y m : Nat} (hm : m ≤ 12) (h : hiB (f y) m = 0) : dotsTo f (12 * (y + 1)) = dotsTo f (12 * y + m) := by
  rw [show 12 * (y + 1) = 12 * y + 12 by omega]
  refine dotsTo_skip f y m 12 hm (by omega) (fun i hi _ => ?_)
  have := hiB_bit (f y) m i
  rw [h] at this
  simpa [hi] using this.symm
theorem dotsTo_prefix (f : Nat → Nat) {a b : Nat} (h : a ≤ b) : dotsTo f a <+: dotsTo f b := by
  induction b with
  | zero =>
    obtain rfl : a = 0 := (by omega)
    exact List.prefix_refl _
  | succ b ih =>
    rcases Nat.lt_or_ge b a with h' | h'
    · obtain rfl : a = b + 1 := (by omega)
      exact List.prefix_refl _
    · rw [dotsTo_succ]; exact (ih h').trans (List.prefix_append _ _)
end Go.Proofs.YtennmnkjdchbhacDoor
