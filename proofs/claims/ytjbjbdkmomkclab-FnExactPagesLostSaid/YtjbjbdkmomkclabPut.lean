/- Dots that are put into a frame, one after the other: the bits of the result. Moved and rolled frames. Plain mathematics. -/
import Derived.Test.YtjbjbdkmomkclabMath
namespace Go.Proofs.Ytjbjbdkmomkclab
theorem testBit_putF (f : Nat → Nat) (x y : Int) (Y X : Nat) : (putF f x y Y).testBit X = ((f Y).testBit X || (plB x y && decide (x = X ∧ y = Y))) := by
  unfold putF
  cases hp : plB x y with
  | false => simp
  | true =>
    have h1 := plB_iff.1 hp
    simp only [if_true, Bool.true_and]
    unfold upd
    by_cases e : Y = y.toNat
    · subst e
      rw [if_pos rfl, Nat.testBit_or, Nat.testBit_two_pow]
      congr 1
      apply Bool.eq_iff_iff.2
      simp only [decide_eq_true_eq]
      omega
    · rw [if_neg e]
      have : ¬ (x = (X : Int) ∧ y = (Y : Int)) := by omega
      simp [this]
def putAll (l : List (Int × Int)) (g : Nat → Nat) : Nat → Nat := l.foldl (fun g d => putF g d.1 d.2) g
theorem putAll_snoc (l : List (Int × Int)) (d : Int × Int) (g : Nat → Nat) : putAll (l ++ [d]) g = putF (putAll l g) d.1 d.2 := by simp [putAll]
theorem testBit_putAll (l : List (Int × Int)) (g : Nat → Nat) (Y X : Nat) : (putAll l g Y).testBit X = ((g Y).testBit X || l.any fun d => plB d.1 d.2 && decide (d.1 = X ∧ d.2 = Y)) := by
  unfold putAll
  induction l generalizing g with
  | nil => simp
  | cons d l ih => rw [List.foldl_cons, ih, testBit_putF, List.any_cons, Bool.or_assoc]
theorem putF_lt {f : Nat → Nat} (hf : ∀ k, f k < 65536) (x y : Int) (k : Nat) : putF f x y k < 65536 := by
  unfold putF
  split
  · rename_i hp
    have h1 := plB_iff.1 hp
    unfold upd
    split
    · exact Nat.or_lt_two_pow (n := 16) (hf _) (Nat.pow_lt_pow_right (by decide) (by omega))
    · exact hf k
  · exact hf k
theorem putAll_lt (l : List (Int × Int)) {g : Nat → Nat} (hg : ∀ k, g k < 65536) (k : Nat) : putAll l g k < 65536 := by
  unfold putAll
  induction l generalizing g with
  | nil => exact hg k
  | cons d l ih => exact ih (putF_lt hg d.1 d.2)
/-- Two frames with the same dots are one. -/
theorem frame_ext {f g : Nat → Nat} (h : ∀ y, y < 12 → ∀ x, (f y).testBit x = (g y).testBit x) : ∀ y, y < 12 → f y = g y := fun y hy => Nat.eq_of_testBit_eq (h y hy)
theorem ok_bit {f : Nat → Nat} (h : okF f = true) {y : Nat} (hy : y < 12) {x : Nat} (hx : 12 ≤ x) : (f y).testBit x = false :=
  Nat.testBit_lt_two_pow (Nat.lt_of_le_of_lt (okF_iff.1 h y hy) (Nat.lt_of_lt_of_le (show 4095 < 2 ^ 12 by decide) (Nat.pow_le_pow_right (by decide) hx)))
/-- spec: each dot is put where it goes. -/
def movedS (f : Nat → Nat) (e s : Int) : Nat → Nat := putAll ((dots f).map fun d => ((d.1 : Int) + e, (d.2 : Int) + s)) zeroF
/-- impl: a row moved. -/
def movedRow (r : Nat) (e : Int) : Nat := if e < 0 then r / 2 ^ (-e).toNat else r * 2 ^ e.toNat % 4096
def movedI (f : Nat → Nat) (e s : Int) (m : Int) : Nat → Nat := fun t => if 0 ≤ (t : Int) - s ∧ (t : Int) - s < m then movedRow (f ((t : Int) - s).toNat) e else 0
theorem movedRow_lt {r : Nat} (hr : r < 65536) (e : Int) : movedRow r e < 65536 := by
  unfold movedRow
  split
  · exact Nat.lt_of_le_of_lt (Nat.div_le_self _ _) hr
  · have := Nat.mod_lt (r * 2 ^ e.toNat) (show 4096 > 0 by decide); omega
theorem testBit_movedRow {r : Nat} (hr : r ≤ 4095) (e : Int) (x : Nat) : (movedRow r e).testBit x = (decide (x < 12) && decide (0 ≤ (x : Int) - e) && r.testBit ((x : Int) - e).toNat) := by
  have hb : ∀ i, 12 ≤ i → r.testBit i = false := fun i hi =>
    Nat.testBit_lt_two_pow (Nat.lt_of_le_of_lt hr (Nat.lt_of_lt_of_le (show 4095 < 2 ^ 12 by decide) (Nat.pow_le_pow_right (by decide) hi)))
  unfold movedRow
  split
  · rename_i he
    rw [Nat.testBit_div_two_pow, show x + (-e).toNat = ((x : Int) - e).toNat by omega]
    have h0 : decide (0 ≤ (x : Int) - e) = true := by simp; omega
    rw [h0]
    by_cases hx : x < 12
    · simp [hx]
    · rw [hb _ (by omega)]; simp
  · rename_i he
    rw [show 4096 = 2 ^ 12 by rfl, Nat.testBit_mod_two_pow, Nat.testBit_mul_two_pow]
    by_cases h2 : 0 ≤ (x : Int) - e
    · have h1 : e.toNat ≤ x := by omega
      rw [show ((x : Int) - e).toNat = x - e.toNat by omega, decide_eq_true h2, decide_eq_true h1]
      simp
    · have h1 : ¬ e.toNat ≤ x := by omega
      rw [decide_eq_false h2, decide_eq_false h1]
      simp
theorem moved_eq {f : Nat → Nat} (h : okF f = true) (e s : Int) : ∀ y, y < 12 → movedS f e s y = movedI f e s 12 y := by
  refine frame_ext fun y hy x => ?_
  unfold movedS movedI
  rw [testBit_putAll, show (zeroF y).testBit x = false from Nat.zero_testBit x, Bool.false_or]
  apply Bool.eq_iff_iff.2
  rw [List.any_eq_true]
  constructor
  · rintro ⟨d, hd, hb⟩
    obtain ⟨d0, hd0, rfl⟩ := List.mem_map.1 hd
    simp only [Bool.and_eq_true, decide_eq_true_eq] at hb
    obtain ⟨hp, hx, hy'⟩ := hb
    have hp := plB_iff.1 hp
    obtain ⟨m1, m2, m3⟩ := mem_dots.1 hd0
    rw [if_pos (by omega), testBit_movedRow (okF_iff.1 h _ (by omega))]
    simp only [Bool.and_eq_true, decide_eq_true_eq]
    refine ⟨⟨by omega, by omega⟩, ?_⟩
    rw [show ((y : Int) - s).toNat = d0.2 by omega, show ((x : Int) - e).toNat = d0.1 by omega]
    exact m3
  · intro hb
    split at hb
    · rename_i hr
      rw [testBit_movedRow (okF_iff.1 h _ (by omega))] at hb
      simp only [Bool.and_eq_true, decide_eq_true_eq] at hb
      obtain ⟨⟨h1, h2⟩, h3⟩ := hb
      have h4 : ((x : Int) - e).toNat < 12 := by
        rcases Nat.lt_or_ge ((x : Int) - e).toNat 12 with hl | hl
        · exact hl
        · rw [ok_bit h (y := ((y : Int) - s).toNat) (by omega) hl] at h3; cases h3
      refine ⟨_, List.mem_map.2 ⟨(((x : Int) - e).toNat, ((y : Int) - s).toNat), mem_dots.2 ⟨h4, by show ((y : Int) - s).toNat < 12; omega, h3⟩, rfl⟩, ?_⟩
      simp only [Bool.and_eq_true, decide_eq_true_eq]
      refine ⟨plB_iff.2 (by omega), by omega, by omega⟩
    · rw [Nat.zero_testBit] at hb; cases hb
def rolledRow (r : Nat) (e : Int) : Nat := movedRow r e ||| movedRow r (e - 12)
def rolledI (f : Nat → Nat) (e s : Int) (m : Int) : Nat → Nat := fun t => if ((t : Int) - s) % 12 < m then rolledRow (f (((t : Int) - s) % 12).toNat) (e % 12) else 0
def rolledS (f : Nat → Nat) (e s : Int) : Nat → Nat := putAll ((dots f).map fun d => (((d.1 : Int) + e) % 12, ((d.2 : Int) + s) % 12)) zeroF
theorem testBit_rolledRow {r : Nat} (hr : r ≤ 4095) {e : Int} (h0 : 0 ≤ e) (h1 : e < 12) (x : Nat) : (rolledRow r e).testBit x = (decide (x < 12) && r.testBit (((x : Int) - e) % 12).toNat) := by
  have hb : ∀ i, 12 ≤ i → r.testBit i = false := fun i hi =>
    Nat.testBit_lt_two_pow (Nat.lt_of_le_of_lt hr (Nat.lt_of_lt_of_le (show 4095 < 2 ^ 12 by decide) (Nat.pow_le_pow_right (by decide) hi)))
  unfold rolledRow
  rw [Nat.testBit_or, testBit_movedRow hr, testBit_movedRow hr]
  by_cases hx : x < 12
  · rw [decide_eq_true hx]
    have h3 : 0 ≤ (x : Int) - (e - 12) := by omega
    rw [decide_eq_true h3]
    by_cases h2 : 0 ≤ (x : Int) - e
    · rw [decide_eq_true h2, hb ((x : Int) - (e - 12)).toNat (by omega), show (((x : Int) - e) % 12).toNat = ((x : Int) - e).toNat by omega]
      simp
    · rw [decide_eq_false h2, show (((x : Int) - e) % 12).toNat = ((x : Int) - (e - 12)).toNat by omega]
      simp
  · rw [decide_eq_false hx]; simp
theorem rolled_eq {f : Nat → Nat} (h : okF f = true) (e s : Int) : ∀ y, y < 12 → rolledS f e s y = rolledI f e s 12 y := by
  refine frame_ext fun y hy x => ?_
  unfold rolledS rolledI
  rw [testBit_putAll, show (zeroF y).testBit x = false from Nat.zero_testBit x, Bool.false_or, if_pos (by omega),
    testBit_rolledRow (okF_iff.1 h _ (by omega)) (by omega) (by omega)]
  apply Bool.eq_iff_iff.2
  rw [List.any_eq_true]
  simp only [Bool.and_eq_true, decide_eq_true_eq]
  constructor
  · rintro ⟨d, hd, hp, hx, hy'⟩
    obtain ⟨d0, hd0, rfl⟩ := List.mem_map.1 hd
    simp only at hp hx hy'
    have hp := plB_iff.1 hp
    obtain ⟨m1, m2, m3⟩ := mem_dots.1 hd0
    refine ⟨by omega, ?_⟩
    rw [show (((y : Int) - s) % 12).toNat = d0.2 by omega, show (((x : Int) - e % 12) % 12).toNat = d0.1 by omega]
    exact m3
  · rintro ⟨h1, h3⟩
    refine ⟨_, List.mem_map.2 ⟨((((x : Int) - e % 12) % 12).toNat, (((y : Int) - s) % 12).toNat), mem_dots.2 ⟨by show (((x : Int) - e % 12) % 12).toNat < 12; omega, by show (((y : Int) - s) % 12).toNat < 12; omega, h3⟩, rfl⟩, ?_⟩
    refine ⟨plB_iff.2 ?_, ?_, ?_⟩
    · simp only; omega
    · simp only; omega
    · simp only; omega
end Go.Proofs.Ytjbjbdkmomkclab
