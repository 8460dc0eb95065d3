/- THE BOX OF A FRAME'S DOTS, PLAINLY. No program is named. -/
import Derived.Test.YtennmnkjdchbhacDoorTzM
namespace Go.Proofs.YtennmnkjdchbhacDoor
/-- Bit t is the highest set bit of n. -/
def HighBit (n t : Nat) : Prop := n.testBit t = true ∧ ∀ i, t < i → n.testBit i = false
def minX (l : List (Nat × Nat)) : Nat := l.foldl (fun m d => min m d.1) 12
def maxX (l : List (Nat × Nat)) : Nat := l.foldl (fun m d => max m d.1) 0
theorem minX_snoc (l : List (Nat × Nat)) (d : Nat × Nat) : minX (l ++ [d]) = min (minX l) d.1 := by simp [minX]
theorem maxX_snoc (l : List (Nat × Nat)) (d : Nat × Nat) : maxX (l ++ [d]) = max (maxX l) d.1 := by simp [maxX]
theorem foldl_min (l : List (Nat × Nat)) : ∀ m, (∀ d ∈ l, l.foldl (fun m d => min m d.1) m ≤ d.1) ∧ l.foldl (fun m d => min m d.1) m ≤ m ∧ (l.foldl (fun m d => min m d.1) m = m ∨ ∃ d ∈ l, d.1 = l.foldl (fun m d => min m d.1) m) := by
  induction l with
  | nil => intro m; simp
  | cons a l ih =>
    intro m
    obtain ⟨h1, h2, h3⟩ := ih (min m a.1)
    simp only [List.foldl_cons]
    refine ⟨fun d hd => ?_, by omega, ?_⟩
    · rcases List.mem_cons.1 hd with rfl | hd
      · omega
      · exact h1 d hd
    · rcases h3 with h3 | ⟨d, hd, h3⟩
      · by_cases h : a.1 < m
        · exact .inr ⟨a, by simp, by omega⟩
        · exact .inl (by omega)
      · exact .inr ⟨d, by simp [hd], h3⟩
theorem foldl_max (l : List (Nat × Nat)) : ∀ m, (∀ d ∈ l, d.1 ≤ l.foldl (fun m d => max m d.1) m) ∧ m ≤ l.foldl (fun m d => max m d.1) m ∧ (l.foldl (fun m d => max m d.1) m = m ∨ ∃ d ∈ l, d.1 = l.foldl (fun m d => max m d.1) m) := by
  induction l with
  | nil => intro m; simp
  | cons a l ih =>
    intro m
    obtain ⟨h1, h2, h3⟩ := ih (max m a.1)
    simp only [List.foldl_cons]
    refine ⟨fun d hd => ?_, by omega, ?_⟩
    · rcases List.mem_cons.1 hd with rfl | hd
      · omega
      · exact h1 d hd
    · rcases h3 with h3 | ⟨d, hd, h3⟩
      · by_cases h : m < a.1
        · exact .inr ⟨a, by simp, by omega⟩
        · exact .inl (by omega)
      · exact .inr ⟨d, by simp [hd], h3⟩
/-- All rows in one. -/
def cols (f : Nat → Nat) : Nat → Nat
  | 0 => 0
  | k + 1 => cols f k ||| f k
/-- Which rows have dots. -/
def rws (f : Nat → Nat) : Nat → Nat
  | 0 => 0
  | k + 1 => if f k = 0 then rws f k else rws f k ||| 2 ^ k
theorem cols_lt {f : Nat → Nat} (hf : ∀ k, f k < 65536) : ∀ k, cols f k < 65536
  | 0 => by simp [cols]
  | k + 1 => Nat.or_lt_two_pow (n := 16) (cols_lt hf k) (hf k)
theorem rws_lt (f : Nat → Nat) : ∀ k, k ≤ 12 → rws f k < 2 ^ k
  | 0, _ => by simp [rws]
  | k + 1, h => by
    have := rws_lt f k (by omega)
    unfold rws
    have h2 : (2 : Nat) ^ (k + 1) = 2 ^ k * 2 := Nat.pow_succ ..
    split
    · omega
    · exact Nat.or_lt_two_pow (by omega) (Nat.pow_lt_pow_right (by decide) (Nat.lt_succ_self k))
theorem cols_bit (f : Nat → Nat) (x : Nat) : ∀ k, (cols f k).testBit x = true ↔ ∃ y, y < k ∧ (f y).testBit x = true
  | 0 => by simp [cols]
  | k + 1 => by
    unfold cols
    rw [Nat.testBit_or, Bool.or_eq_true, cols_bit f x k]
    constructor
    · rintro (⟨y, hy, h⟩ | h)
      · exact ⟨y, by omega, h⟩
      · exact ⟨k, by omega, h⟩
    · rintro ⟨y, hy, h⟩
      rcases Nat.lt_succ_iff_lt_or_eq.1 hy with h' | rfl
      · exact .inl ⟨y, h', h⟩
      · exact .inr h
theorem rws_bit (f : Nat → Nat) (y : Nat) : ∀ k, (rws f k).testBit y = true ↔ y < k ∧ f y ≠ 0
  | 0 => by simp [rws]
  | k + 1 => by
    unfold rws
    split
    · rename_i h0
      rw [rws_bit f y k]
      constructor
      · rintro ⟨h1, h2⟩; exact ⟨by omega, h2⟩
      · rintro ⟨h1, h2⟩
        rcases Nat.lt_succ_iff_lt_or_eq.1 h1 with h | rfl
        · exact ⟨h, h2⟩
        · exact absurd h0 h2
    · rename_i h0
      rw [Nat.testBit_or, Bool.or_eq_true, rws_bit f y k, Nat.testBit_two_pow]
      constructor
      · rintro (⟨h1, h2⟩ | h)
        · exact ⟨by omega, h2⟩
        · have : k = y := by simpa using h
          subst this; exact ⟨by omega, h0⟩
      · rintro ⟨h1, h2⟩
        rcases Nat.lt_succ_iff_lt_or_eq.1 h1 with h | rfl
        · exact .inl ⟨h, h2⟩
        · exact .inr (by simp)
theorem dots_sorted (f : Nat → Nat) : ∀ k, (dotsTo f k).Pairwise (fun a b => 12 * a.2 + a.1 < 12 * b.2 + b.1)
  | 0 => by simp [dotsTo_zero]
  | k + 1 => by
    rw [dotsTo_succ, List.pairwise_append]
    refine ⟨dots_sorted f k, by split <;> simp, fun a ha b hb => ?_⟩
    have h1 := mem_dotsTo.1 ha
    split at hb
    · simp only [List.mem_singleton] at hb
      subst hb
      simp only
      omega
    · simp at hb
def yA (f : Nat → Nat) : Nat := ((dots f).headD (0, 0)).2
def yB (f : Nat → Nat) : Nat := ((dots f).getLastD (0, 0)).2
theorem row_dot {f : Nat → Nat} (h : okF f = true) {y : Nat} (hy : y < 12) (h0 : f y ≠ 0) : ∃ x, (x, y) ∈ dots f := by
  obtain ⟨t, _, ht, _⟩ := lowBit_ex (m := 12) (n := f y) (by have := okF_iff.1 h y hy; omega) h0
  exact ⟨t, mem_dots.2 ⟨bitlt12 ht (okF_iff.1 h y hy), hy, ht⟩⟩
theorem dot_row {f : Nat → Nat} {d : Nat × Nat} (h : d ∈ dots f) : f d.2 ≠ 0 := by
  intro e
  have := (mem_dots.1 h).2.2
  rw [e] at this; simp at this
theorem yA_spec {f : Nat → Nat} (h : okF f = true) (h0 : dots f ≠ []) : LowBit (rws f 12) (yA f) := by
  cases hd : dots f with
  | nil => exact absurd hd h0
  | cons d l =>
    have hy : yA f = d.2 := by unfold yA; rw [hd]; rfl
    rw [hy]
    have hm : d ∈ dots f := by rw [hd]; simp
    have hs : (dots f).Pairwise (fun a b => 12 * a.2 + a.1 < 12 * b.2 + b.1) := dots_sorted f 144
    rw [hd, List.pairwise_cons] at hs
    have hb := mem_dots.1 hm
    refine ⟨(rws_bit f d.2 12).2 ⟨hb.2.1, dot_row hm⟩, fun i hi => ?_⟩
    cases he : (rws f 12).testBit i with
    | false => rfl
    | true =>
      obtain ⟨h1, h2⟩ := (rws_bit f i 12).1 he
      obtain ⟨x, hx⟩ := row_dot h h1 h2
      have hxl := mem_dots.1 hx
      rw [hd] at hx
      rcases List.mem_cons.1 hx with rfl | hx
      · simp at hi
      · have := hs.1 _ hx
        simp only at this hxl
        omega
theorem yB_spec {f : Nat → Nat} (h : okF f = true) (h0 : dots f ≠ []) : HighBit (rws f 12) (yB f) := by
  obtain ⟨l, d, hd⟩ : ∃ l d, dots f = l ++ [d] := ⟨_, _, (List.dropLast_concat_getLast h0).symm⟩
  have hy : yB f = d.2 := by unfold yB; rw [hd]; simp
  rw [hy]
  have hm : d ∈ dots f := by rw [hd]; simp
  have hs : (dots f).Pairwise (fun a b => 12 * a.2 + a.1 < 12 * b.2 + b.1) := dots_sorted f 144
  rw [hd, List.pairwise_append] at hs
  have hb := mem_dots.1 hm
  refine ⟨(rws_bit f d.2 12).2 ⟨hb.2.1, dot_row hm⟩, fun i hi => ?_⟩
  cases he : (rws f 12).testBit i with
  | false => rfl
  | true =>
    obtain ⟨h1, h2⟩ := (rws_bit f i 12).1 he
    obtain ⟨x, hx⟩ := row_dot h h1 h2
    have hxl := mem_dots.1 hx
    rw [hd] at hx
    rcases List.mem_append.1 hx with hx | hx
    · have := hs.2.2 _ hx d (by simp)
      simp only at this hxl
      omega
    · simp only [List.mem_singleton] at hx
      subst hx
      simp at hi
theorem minX_spec {f : Nat → Nat} (h0 : dots f ≠ []) : LowBit (cols f 12) (minX (dots f)) := by
  obtain ⟨h1, h2, h3⟩ := foldl_min (dots f) 12
  obtain ⟨d, hd⟩ := List.exists_mem_of_ne_nil _ h0
  have hdl := mem_dots.1 hd
  have h4 := h1 d hd
  obtain ⟨e, he, hx⟩ := h3.resolve_left (by omega)
  have hel := mem_dots.1 he
  refine ⟨(cols_bit f _ 12).2 ⟨e.2, hel.2.1, ?_⟩, fun i hi => ?_⟩
  · unfold minX; rw [← hx]; exact hel.2.2
  · cases hb : (cols f 12).testBit i with
    | false => rfl
    | true =>
      obtain ⟨y, hy, hyb⟩ := (cols_bit f i 12).1 hb
      unfold minX at hi
      have := h1 (i, y) (mem_dots.2 ⟨by simp only; omega, hy, hyb⟩)
      simp only at this
      omega
theorem maxX_spec {f : Nat → Nat} (h : okF f = true) (h0 : dots f ≠ []) : HighBit (cols f 12) (maxX (dots f)) := by
  obtain ⟨h1, h2, h3⟩ := foldl_max (dots f) 0
  obtain ⟨d, hd⟩ := List.exists_mem_of_ne_nil _ h0
  have hA : ∃ e ∈ dots f, e.1 = maxX (dots f) := by
    rcases h3 with h3 | h3
    · exact ⟨d, hd, by have := h1 d hd; unfold maxX; omega⟩
    · exact h3
  obtain ⟨e, he, hx⟩ := hA
  have hel := mem_dots.1 he
  refine ⟨(cols_bit f _ 12).2 ⟨e.2, hel.2.1, ?_⟩, fun i hi => ?_⟩
  · rw [← hx]; exact hel.2.2
  · cases hb : (cols f 12).testBit i with
    | false => rfl
    | true =>
      obtain ⟨y, hy, hyb⟩ := (cols_bit f i 12).1 hb
      unfold maxX at hi
      have := h1 (i, y) (mem_dots.2 ⟨bitlt12 hyb (okF_iff.1 h y hy), hy, hyb⟩)
      simp only at this
      omega
/-- How many bits a number has. -/
def blen : Nat → Nat → Nat
  | 0, _ => 0
  | k + 1, n => if n = 0 then 0 else blen k (n / 2) + 1
theorem high_pow {n t : Nat} (h : HighBit n t) : 2 ^ t ≤ n ∧ n < 2 ^ (t + 1) := by
  refine ⟨Nat.ge_two_pow_of_testBit h.1, ?_⟩
  apply Nat.lt_pow_two_of_testBit
  intro i hi
  exact h.2 i (by omega)
theorem blen_of : ∀ (k n h : Nat), n < 2 ^ k → 2 ^ h ≤ n → n < 2 ^ (h + 1) → blen k n = h + 1
  | 0, n, h, h1, h2, _ => by have := Nat.two_pow_pos h; simp at h1; omega
  | k + 1, n, 0, h1, h2, h3 => by
    have : n = 1 := by simp at h2 h3; omega
    subst this
    unfold blen
    rw [if_neg (by decide)]
    cases k <;> simp [blen]
  | k + 1, n, h + 1, h1, h2, h3 => by
    have e1 : (2 : Nat) ^ (k + 1) = 2 ^ k * 2 := Nat.pow_succ ..
    have e2 : (2 : Nat) ^ (h + 1) = 2 ^ h * 2 := Nat.pow_succ ..
    have e3 : (2 : Nat) ^ (h + 1 + 1) = 2 ^ (h + 1) * 2 := Nat.pow_succ ..
    have := Nat.two_pow_pos h
    unfold blen
    rw [if_neg (by omega), blen_of k (n / 2) h (by omega) (by omega) (by omega)]
theorem blen_low {n h : Nat} (hh : HighBit n h) (hn : n < 256) : blen 8 n = h + 1 := blen_of 8 n h hn (high_pow hh).1 (high_pow hh).2
theorem blen_high {n h : Nat} (hh : HighBit n h) (hn : 256 ≤ n) (hm : n < 65536) : 8 ≤ h ∧ blen 8 (n / 256) = h - 8 + 1 := by
  obtain ⟨h1, h2⟩ := high_pow hh
  have h8 : 8 ≤ h := by
    rcases Nat.lt_or_ge h 8 with h' | h'
    · have : 2 ^ (h + 1) ≤ 2 ^ 8 := Nat.pow_le_pow_right (by decide) (by omega)
      omega
    · exact h'
  refine ⟨h8, ?_⟩
  obtain ⟨d, rfl⟩ : ∃ d, h = d + 8 := ⟨h - 8, by omega⟩
  have e1 : (2 : Nat) ^ (d + 8) = 2 ^ d * 256 := by rw [Nat.pow_add]
  have e2 : (2 : Nat) ^ (d + 8 + 1) = 2 ^ (d + 1) * 256 := by rw [show d + 8 + 1 = (d + 1) + 8 by omega, Nat.pow_add]
  rw [blen_of 8 (n / 256) d (by omega) (by omega) (by omega)]
  omega
theorem dots_nil_iff {f : Nat → Nat} (h : okF f = true) : dots f = [] ↔ ∀ y, y < 12 → f y = 0 := by
  constructor
  · intro e y hy
    rcases Nat.eq_zero_or_pos (f y) with h0 | h0
    · exact h0
    · obtain ⟨x, hx⟩ := row_dot h hy (by omega)
      rw [e] at hx; simp at hx
  · intro e
    rw [List.eq_nil_iff_forall_not_mem]
    intro d hd
    exact dot_row hd (e _ (mem_dots.1 hd).2.1)
theorem first_y {f : Nat → Nat} (h : dots f ≠ []) : ∃ d, (dots f)[0]? = some d ∧ d.2 = yA f := by
  unfold yA
  cases hd : dots f with
  | nil => exact absurd hd h
  | cons d l => exact ⟨d, rfl, rfl⟩
theorem last_y {f : Nat → Nat} (h : dots f ≠ []) : ∃ d, (dots f)[(dots f).length - 1]? = some d ∧ d.2 = yB f := by
  unfold yB
  obtain ⟨l, d, hd⟩ : ∃ l d, dots f = l ++ [d] := ⟨_, _, (List.dropLast_concat_getLast h).symm⟩
  rw [hd]
  exact ⟨d, by simp, by simp⟩
end Go.Proofs.YtennmnkjdchbhacDoor
