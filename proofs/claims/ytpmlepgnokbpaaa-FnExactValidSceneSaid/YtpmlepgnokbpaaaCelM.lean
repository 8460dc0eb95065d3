/- CELS, PLAINLY: when one is valid; one upon another one. No program is named. -/
import Derived.Test.YtpmlepgnokbpaaaPut
import Derived.Test.YtpmlepgnokbpaaaFr
namespace Go.Proofs.Ytpmlepgnokbpaaa
open Go.RowKit
set_option linter.unusedVariables false
set_option linter.unusedSimpArgs false
theorem and_less {a b : Nat} (ha : a < 65536) (hb : b < 65536) : a &&& (65535 - b) = 0 ↔ a &&& b = a := by
  constructor
  · intro h
    apply Nat.eq_of_testBit_eq
    intro j
    have h1 : (a &&& (65535 - b)).testBit j = false := by rw [h]; exact Nat.zero_testBit j
    rw [Nat.testBit_and, not_testBit hb] at h1
    rw [Nat.testBit_and]
    by_cases hj : j < 16
    · rw [decide_eq_true hj, Bool.true_and] at h1
      cases ha : a.testBit j <;> cases hb : b.testBit j <;> simp_all
    · have : a.testBit j = false := Nat.testBit_lt_two_pow (Nat.lt_of_lt_of_le ha (Nat.pow_le_pow_right (n := 2) (i := 16) (by decide) (by omega)))
      simp [this]
  · intro h
    apply Nat.eq_of_testBit_eq
    intro j
    rw [Nat.zero_testBit, Nat.testBit_and, not_testBit hb]
    have h1 : (a &&& b).testBit j = a.testBit j := by rw [h]
    rw [Nat.testBit_and] at h1
    cases ha : a.testBit j <;> cases hb : b.testBit j <;> simp_all
def okc (i k : Nat → Nat) : Bool := okF i && okF k && eqF (lessF i k) zeroF
def celC (i k : Nat → Nat) : Int := if okc i k then 0 else 1
theorem okc_impl {i k : Nat → Nat} (hi : ∀ y, i y < 65536) (hk : ∀ y, k y < 65536) : (okF k && eqF (meetF i k) i) = okc i k := by
  unfold okc
  rw [Bool.eq_iff_iff]
  simp only [Bool.and_eq_true, okF_iff, eqF_iff]
  constructor
  · rintro ⟨h1, h2⟩
    refine ⟨⟨fun y hy => ?_, h1⟩, fun y hy => (and_less (hi y) (hk y)).2 (h2 y hy)⟩
    have h3 := h2 y hy
    have h4 : i y &&& k y ≤ k y := Nat.and_le_right
    unfold meetF at h3
    rw [h3] at h4
    exact Nat.le_trans h4 (h1 y hy)
  · rintro ⟨⟨_, h1⟩, h2⟩
    exact ⟨h1, fun y hy => (and_less (hi y) (hk y)).1 (h2 y hy)⟩
theorem okc_true {i k : Nat → Nat} (h : okc i k = true) : okF i = true ∧ okF k = true := by
  unfold okc at h
  simp only [Bool.and_eq_true] at h
  exact h.1
def mvcC (i k : Nat → Nat) (e s : Int) : Int := if okc i k then (if inB e (-12) 12 && inB s (-12) 12 then 0 else 2) else 1
theorem mvcC_cases (i k : Nat → Nat) (e s : Int) : (okc i k = false ∧ mvcC i k e s = 1) ∨ (okc i k = true ∧ inB e (-12) 12 = false ∧ mvcC i k e s = 2) ∨ (okc i k = true ∧ inB e (-12) 12 = true ∧ inB s (-12) 12 = false ∧ mvcC i k e s = 2) ∨ (okc i k = true ∧ inB e (-12) 12 = true ∧ inB s (-12) 12 = true ∧ mvcC i k e s = 0) := by
  unfold mvcC; cases okc i k <;> cases inB e (-12) 12 <;> cases inB s (-12) 12 <;> simp
theorem way_of_ok {i k : Nat → Nat} (h : okc i k = true) (e s : Int) : wayC i e s = mvcC i k e s := by
  unfold wayC mvcC; rw [(okc_true h).1, h]
/-- The ink of one upon the other. -/
def ovI (i k i2 : Nat → Nat) : Nat → Nat := joinF i (lessF i2 k)
def ovC (i k i2 k2 : Nat → Nat) : Int := if okc i k && okc i2 k2 then 0 else 1
theorem ovC_cases (i k i2 k2 : Nat → Nat) : (okc i k = false ∧ ovC i k i2 k2 = 1) ∨ (okc i k = true ∧ okc i2 k2 = false ∧ ovC i k i2 k2 = 1) ∨ (okc i k = true ∧ okc i2 k2 = true ∧ ovC i k i2 k2 = 0) := by
  unfold ovC; cases okc i k <;> cases okc i2 k2 <;> simp
theorem okJoin {f g : Nat → Nat} (hf : okF f = true) (hg : okF g = true) : okF (joinF f g) = true := okF_iff.2 fun y hy => by
  have h1 := okF_iff.1 hf y hy
  have h2 := okF_iff.1 hg y hy
  have := Nat.or_lt_two_pow (n := 12) (show f y < 2 ^ 12 by omega) (show g y < 2 ^ 12 by omega)
  show f y ||| g y ≤ 4095
  omega
theorem okLess {f : Nat → Nat} (g : Nat → Nat) (hf : okF f = true) : okF (lessF f g) = true := okF_iff.2 fun y hy => Nat.le_trans Nat.and_le_left (okF_iff.1 hf y hy)
theorem okMoved {f : Nat → Nat} (hf : okF f = true) (e s : Int) : okF (movedI f e s 12) = true := okF_iff.2 fun y hy => by
  unfold movedI
  split
  · rename_i h
    have h1 := okF_iff.1 hf ((y : Int) - s).toNat (by omega)
    unfold movedRow
    split
    · exact Nat.le_trans (Nat.div_le_self _ _) h1
    · have := Nat.mod_lt (f ((y : Int) - s).toNat * 2 ^ e.toNat) (show 4096 > 0 by decide); omega
  · omega
theorem ok_lt {f : Nat → Nat} (hf : okF f = true) (y : Nat) (hy : y < 12) : f y < 65536 := by have := okF_iff.1 hf y hy; omega
end Go.Proofs.Ytpmlepgnokbpaaa
