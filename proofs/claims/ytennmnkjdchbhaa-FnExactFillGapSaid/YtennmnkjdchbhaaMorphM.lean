/- MORPHS, PLAINLY: the first dots of a frame, as many as are told. No program is named. -/
import Derived.Test.YtennmnkjdchbhaaB2
namespace Go.Proofs.Ytennmnkjdchbhaa
/-- How many dots are among the first k places. -/
def rk (u : Nat → Nat) (k : Nat) : Nat := (dotsTo u k).length
theorem rk_succ (u : Nat → Nat) (k : Nat) : rk u (k + 1) = rk u k + if (u (k / 12)).testBit (k % 12) then 1 else 0 := by
  unfold rk
  rw [dotsTo_succ, List.length_append]
  split <;> simp
theorem rk_le (u : Nat → Nat) (k : Nat) : rk u k ≤ k := dotsTo_length u k
/-- The frame with the first n dots of u, as far as the first k places tell. -/
def mk (u : Nat → Nat) (n : Nat) : Nat → Nat → Nat
  | 0 => zeroF
  | k + 1 => if rk u k < n ∧ (u (k / 12)).testBit (k % 12) = true then upd (mk u n k) (k / 12) (mk u n k (k / 12) ||| 2 ^ (k % 12)) else mk u n k
theorem mk_zero (u : Nat → Nat) (n : Nat) : mk u n 0 = zeroF := rfl
theorem mk_yes {u : Nat → Nat} {n k : Nat} (h : rk u k < n) (hb : (u (k / 12)).testBit (k % 12) = true) : mk u n (k + 1) = upd (mk u n k) (k / 12) (mk u n k (k / 12) ||| 2 ^ (k % 12)) := if_pos ⟨h, hb⟩
theorem mk_no {u : Nat → Nat} {n k : Nat} (h : n ≤ rk u k ∨ (u (k / 12)).testBit (k % 12) = false) : mk u n (k + 1) = mk u n k := if_neg fun ⟨a, b⟩ => by
  rcases h with h | h
  · omega
  · rw [h] at b; cases b
theorem rk_mono (u : Nat → Nat) (k : Nat) : ∀ j, rk u k ≤ rk u (k + j)
  | 0 => Nat.le_refl _
  | j + 1 => by rw [← Nat.add_assoc, rk_succ]; have := rk_mono u k j; omega
theorem mk_stop {u : Nat → Nat} {n k : Nat} (h : n ≤ rk u k) : ∀ j, mk u n (k + j) = mk u n k
  | 0 => rfl
  | j + 1 => by
    rw [← Nat.add_assoc, mk_no (.inl (by have := rk_mono u k j; omega)), mk_stop h j]
theorem mk_stop_to {u : Nat → Nat} {n k m : Nat} (h : n ≤ rk u k) (hm : k ≤ m) : mk u n m = mk u n k := by
  have := mk_stop h (m - k)
  rwa [show k + (m - k) = m by omega] at this
theorem mk_lt (u : Nat → Nat) (n : Nat) : ∀ k y, mk u n k y < 4096
  | 0, _ => by simp [mk, zeroF]
  | k + 1, y => by
    unfold mk
    split
    · unfold upd
      split
      · exact Nat.or_lt_two_pow (n := 12) (mk_lt u n k _) (Nat.pow_lt_pow_right (by decide) (Nat.mod_lt _ (by decide)))
      · exact mk_lt u n k y
    · exact mk_lt u n k y
/-- Places that have not been asked yet. -/
theorem mk_top (u : Nat → Nat) (n : Nat) : ∀ k y x, x < 12 → k ≤ 12 * y + x → (mk u n k y).testBit x = false
  | 0, _, _, _, _ => by simp [mk, zeroF]
  | k + 1, y, x, hx, h => by
    have ih := mk_top u n k y x hx (by omega)
    unfold mk
    split
    · unfold upd
      split
      · rename_i hy
        subst hy
        rw [Nat.testBit_or, ih, Nat.testBit_two_pow]
        simp; omega
      · exact ih
    · exact ih
theorem or_xor {a x : Nat} (h : a.testBit x = false) : a ||| 2 ^ x = a ^^^ 2 ^ x := by
  apply Nat.eq_of_testBit_eq
  intro i
  rw [Nat.testBit_or, Nat.testBit_xor, Nat.testBit_two_pow]
  by_cases e : x = i
  · subst e; simp [h]
  · simp [e]
theorem and_pow (a x : Nat) : a &&& 2 ^ x = if a.testBit x then 2 ^ x else 0 := by
  apply Nat.eq_of_testBit_eq
  intro i
  rw [Nat.testBit_and, Nat.testBit_two_pow]
  by_cases e : x = i
  · subst e; cases h : a.testBit x <;> simp
  · cases h : a.testBit x <;> simp [e]
/-- A step of both loops, in the row y and the column x. -/
theorem mk_row {u : Nat → Nat} {n y x : Nat} (hx : x < 12) (h : rk u (12 * y + x) < n) : mk u n (12 * y + (x + 1)) = upd (mk u n (12 * y + x)) y (mk u n (12 * y + x) y ||| (u y &&& 2 ^ x)) := by
  have e1 : (12 * y + x) / 12 = y := by omega
  have e2 : (12 * y + x) % 12 = x := by omega
  rw [← Nat.add_assoc]
  cases hb : (u y).testBit x with
  | true => rw [mk_yes h (by rw [e1, e2]; exact hb), e1, e2, and_pow, if_pos hb]
  | false =>
    rw [mk_no (.inr (by rw [e1, e2]; exact hb)), and_pow, hb]
    funext j
    unfold upd
    split
    · rename_i e; subst e; simp
    · rfl
theorem rk_row {u : Nat → Nat} {y x : Nat} (hx : x < 12) : rk u (12 * y + (x + 1)) = rk u (12 * y + x) + if (u y).testBit x then 1 else 0 := by
  rw [← Nat.add_assoc, rk_succ, show (12 * y + x) / 12 = y by omega, show (12 * y + x) % 12 = x by omega]
theorem mk_rowN {u : Nat → Nat} {n y x : Nat} (hx : x < 12) (h : n ≤ rk u (12 * y + x) ∨ (u y).testBit x = false) : mk u n (12 * y + (x + 1)) = mk u n (12 * y + x) := by
  rw [← Nat.add_assoc]
  refine mk_no ?_
  rw [show (12 * y + x) / 12 = y by omega, show (12 * y + x) % 12 = x by omega]
  exact h
theorem mk_rowY {u : Nat → Nat} {n y x : Nat} (hx : x < 12) (h : rk u (12 * y + x) < n) (hb : (u y).testBit x = true) : mk u n (12 * y + (x + 1)) = upd (mk u n (12 * y + x)) y (mk u n (12 * y + x) y ^^^ 2 ^ x) := by
  rw [mk_row hx h, and_pow, if_pos hb, or_xor (mk_top u n _ y x hx (Nat.le_refl _))]
/-- The frame between two ones, behind so many places. -/
def morK (a b : Nat → Nat) (n k : Nat) : Nat → Nat := unlikeF a (mk (unlikeF a b) n k)
def morN (a b : Nat → Nat) (s t : Nat) : Nat := difN a b * s / t
def morF (a b : Nat → Nat) (s t : Nat) : Nat → Nat := morK a b (morN a b s t) 144
theorem morK_zero (a b : Nat → Nat) (n : Nat) : morK a b n 0 = a := by
  funext y; simp [morK, unlikeF, mk, zeroF]
theorem morK_bit {a b : Nat → Nat} {n y x : Nat} (hx : x < 12) : (morK a b n (12 * y + x) y).testBit x = (a y).testBit x := by
  unfold morK unlikeF
  rw [Nat.testBit_xor]
  have := mk_top (fun y => a y ^^^ b y) n (12 * y + x) y x hx (Nat.le_refl _)
  rw [this, Bool.xor_false]
theorem morK_yes {a b : Nat → Nat} {n y x : Nat} (hx : x < 12) (h : rk (unlikeF a b) (12 * y + x) < n) (hb : (unlikeF a b y).testBit x = true) : morK a b n (12 * y + (x + 1)) = upd (morK a b n (12 * y + x)) y (morK a b n (12 * y + x) y ^^^ 2 ^ x) := by
  unfold morK
  rw [mk_rowY hx h hb]
  funext j
  unfold unlikeF upd
  split
  · rename_i e; subst e; rw [Nat.xor_assoc]
  · rfl
theorem morK_no {a b : Nat → Nat} {n y x : Nat} (hx : x < 12) (h : n ≤ rk (unlikeF a b) (12 * y + x) ∨ (unlikeF a b y).testBit x = false) : morK a b n (12 * y + (x + 1)) = morK a b n (12 * y + x) := by
  unfold morK; rw [mk_rowN hx h]
theorem morK_stop {a b : Nat → Nat} {n k m : Nat} (h : n ≤ rk (unlikeF a b) k) (hm : k ≤ m) : morK a b n m = morK a b n k := by
  unfold morK; rw [mk_stop_to h hm]
theorem morK_lt {a b : Nat → Nat} (ha : ∀ k, a k < 65536) (n m k : Nat) : morK a b n m k < 65536 := unlikeF_lt ha (fun k => Nat.lt_trans (mk_lt _ _ _ k) (by decide)) k
theorem morK_ok {a b : Nat → Nat} (ha : okF a = true) (n m : Nat) : okF (morK a b n m) = true := okF_iff.2 fun y hy => by
  have h1 := okF_iff.1 ha y hy
  have h2 := mk_lt (unlikeF a b) n m y
  have : a y ^^^ mk (unlikeF a b) n m y < 2 ^ 12 := Nat.xor_lt_two_pow (by omega) h2
  show a y ^^^ mk (unlikeF a b) n m y ≤ 4095
  omega
theorem morN_le {a b : Nat → Nat} {s t : Nat} (hs : s ≤ t) : morN a b s t ≤ difN a b := by
  unfold morN
  rcases Nat.eq_zero_or_pos t with h | h
  · subst h; simp
  · exact Nat.div_le_of_le_mul (by rw [Nat.mul_comm t]; exact Nat.mul_le_mul_left _ hs)
end Go.Proofs.Ytennmnkjdchbhaa
