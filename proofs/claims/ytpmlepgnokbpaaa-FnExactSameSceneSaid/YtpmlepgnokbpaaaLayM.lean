/- SCENES, PLAINLY: when a layer and a scene are valid; equal scenes; how far a layer is moved. No program is named. -/
import Derived.Test.YtpmlepgnokbpaaaEqLay
import Derived.Test.YtpmlepgnokbpaaaCelM
import Derived.Test.YtpmlepgnokbpaaaB2
import Derived.Test.YtpmlepgnokbpaaaRoom
namespace Go.Proofs.Ytpmlepgnokbpaaa
open Go.RowKit
set_option linter.unusedVariables false
set_option linter.unusedSimpArgs false
def eqSc (L M : List Ly) : Bool := L.length == M.length && (List.range L.length).all fun i => eqLy (lAt L i) (lAt M i)
theorem eqSc_refl (L : List Ly) : eqSc L L = true := by simp [eqSc, eqLy_refl]
theorem eqSc_len {L M : List Ly} (h : L.length ≠ M.length) : eqSc L M = false := by simp [eqSc, h]
theorem eqSc_iff {L M : List Ly} (h : L.length = M.length) : eqSc L M = true ↔ ∀ i, i < L.length → eqLy (lAt L i) (lAt M i) = true := by simp [eqSc, h]
theorem eqSc_false {L M : List Ly} {i : Nat} (hi : i < L.length) (h : eqLy (lAt L i) (lAt M i) = false) : eqSc L M = false := by
  by_cases hl : L.length = M.length
  · rw [← Bool.not_eq_true, eqSc_iff hl]
    intro hall
    have := hall i hi
    rw [h] at this
    cases this
  · exact eqSc_len hl
def okl (l : Ly) : Bool := okc l.i l.k && inB l.e (-12) 12 && inB l.s (-12) 12 && inB l.h 0 8
theorem okl_cases (l : Ly) : (okc l.i l.k = false ∧ okl l = false) ∨ (okc l.i l.k = true ∧ inB l.e (-12) 12 = false ∧ okl l = false) ∨ (okc l.i l.k = true ∧ inB l.e (-12) 12 = true ∧ inB l.s (-12) 12 = false ∧ okl l = false) ∨ (okc l.i l.k = true ∧ inB l.e (-12) 12 = true ∧ inB l.s (-12) 12 = true ∧ okl l = inB l.h 0 8) := by
  unfold okl; cases okc l.i l.k <;> cases inB l.e (-12) 12 <;> cases inB l.s (-12) 12 <;> simp
theorem okl_true {l : Ly} (h : okl l = true) : okc l.i l.k = true ∧ (-12 ≤ l.e ∧ l.e ≤ 12) ∧ (-12 ≤ l.s ∧ l.s ≤ 12) ∧ 0 ≤ l.h ∧ l.h ≤ 8 := by
  unfold okl at h
  simp only [Bool.and_eq_true, inB_iff] at h
  exact ⟨h.1.1.1, h.1.1.2, h.1.2, h.2⟩
def okS (L : List Ly) : Bool := decide (L.length ≤ 8) && L.all okl
theorem okS_iff {L : List Ly} : okS L = true ↔ L.length ≤ 8 ∧ ∀ i, i < L.length → okl (lAt L i) = true := by
  unfold okS
  rw [Bool.and_eq_true, decide_eq_true_eq, List.all_eq_true]
  constructor
  · rintro ⟨h1, h2⟩
    exact ⟨h1, fun i hi => h2 _ (List.mem_of_getElem? (lAt_get hi))⟩
  · rintro ⟨h1, h2⟩
    refine ⟨h1, fun x hx => ?_⟩
    obtain ⟨i, hi⟩ := List.getElem?_of_mem hx
    have hlt := (List.getElem?_eq_some_iff.1 hi).1
    have := h2 i hlt
    rw [lAt_get hlt] at hi
    rw [← Option.some.inj hi]
    exact this
theorem okS_false_len {L : List Ly} (h : 8 < L.length) : okS L = false := by
  rw [← Bool.not_eq_true, okS_iff]; omega
theorem okS_false_at {L : List Ly} {i : Nat} (hi : i < L.length) (h : okl (lAt L i) = false) : okS L = false := by
  rw [← Bool.not_eq_true, okS_iff]
  rintro ⟨_, h2⟩
  rw [h2 i hi] at h
  cases h
/-- Eighths, rounded down. -/
def eig (n h : Int) : Int := n * h / 8
theorem eig_bounds {n h : Int} (h1 : -100 ≤ n) (h2 : n ≤ 100) (h3 : 0 ≤ h) (h4 : h ≤ 8) : -100 ≤ eig n h ∧ eig n h ≤ 100 := by
  have a1 : n * h ≤ 100 * h := Int.mul_le_mul_of_nonneg_right h2 h3
  have a2 : -100 * h ≤ n * h := Int.mul_le_mul_of_nonneg_right h1 h3
  unfold eig
  generalize n * h = p at *
  omega
theorem mul_bounds8 {n h : Int} (h1 : -100 ≤ n) (h2 : n ≤ 100) (h3 : 0 ≤ h) (h4 : h ≤ 8) : -800 ≤ n * h ∧ n * h ≤ 800 := by
  have a1 : n * h ≤ 100 * h := Int.mul_le_mul_of_nonneg_right h2 h3
  have a2 : -100 * h ≤ n * h := Int.mul_le_mul_of_nonneg_right h1 h3
  generalize n * h = p at *
  omega
def offE (l : Ly) (x : Int) : Int := l.e - eig x l.h
def offS (l : Ly) (y : Int) : Int := l.s - eig y l.h
theorem offE_bounds {l : Ly} (hl : okl l = true) {x : Int} (h1 : -100 ≤ x) (h2 : x ≤ 100) : -200 ≤ offE l x ∧ offE l x ≤ 200 := by
  obtain ⟨_, a, _, b, c⟩ := okl_true hl
  have := eig_bounds h1 h2 b c
  unfold offE; omega
theorem offS_bounds {l : Ly} (hl : okl l = true) {x : Int} (h1 : -100 ≤ x) (h2 : x ≤ 100) : -200 ≤ offS l x ∧ offS l x ≤ 200 := by
  obtain ⟨_, _, a, b, c⟩ := okl_true hl
  have := eig_bounds h1 h2 b c
  unfold offS; omega
/-- The code of a scene and a camera. -/
def camB (x y : Int) : Bool := inB x (-100) 100 && inB y (-100) 100
def camC (L : List Ly) (x y : Int) : Int := if okS L then (if camB x y then 0 else 2) else 1
theorem camC_cases (L : List Ly) (x y : Int) : (okS L = false ∧ camC L x y = 1) ∨ (okS L = true ∧ inB x (-100) 100 = false ∧ camC L x y = 2) ∨ (okS L = true ∧ inB x (-100) 100 = true ∧ inB y (-100) 100 = false ∧ camC L x y = 2) ∨ (okS L = true ∧ inB x (-100) 100 = true ∧ inB y (-100) 100 = true ∧ camC L x y = 0) := by
  unfold camC camB; cases okS L <;> cases inB x (-100) 100 <;> cases inB y (-100) 100 <;> simp
theorem camC_zero {L : List Ly} {x y : Int} (h : camC L x y = 0) : okS L = true ∧ (-100 ≤ x ∧ x ≤ 100) ∧ -100 ≤ y ∧ y ≤ 100 := by
  rcases camC_cases L x y with ⟨_, e⟩ | ⟨_, _, e⟩ | ⟨_, _, _, e⟩ | ⟨a, b, c, e⟩
  · rw [e] at h; cases h
  · rw [e] at h; cases h
  · rw [e] at h; cases h
  · exact ⟨a, inB_iff.1 b, inB_iff.1 c⟩
/-- The cel that looks as the first n layers. -/
def flatI (L : List Ly) (x y : Int) : Nat → (Nat → Nat) × (Nat → Nat)
  | 0 => (zeroF, zeroF)
  | n + 1 => (ovI (flatI L x y n).1 (flatI L x y n).2 (movedI (lAt L n).i (offE (lAt L n) x) (offS (lAt L n) y) 12), joinF (flatI L x y n).2 (movedI (lAt L n).k (offE (lAt L n) x) (offS (lAt L n) y) 12))
theorem movedI_lt' {f : Nat → Nat} (hf : ∀ k, f k < 65536) (e s : Int) (k : Nat) : movedI f e s 12 k < 65536 := by
  unfold movedI
  split
  · exact movedRow_lt (hf _) _
  · decide
theorem flat_lt {L : List Ly} (hL : ltLy L) (x y : Int) : ∀ n, (∀ j, (flatI L x y n).1 j < 65536) ∧ ∀ j, (flatI L x y n).2 j < 65536
  | 0 => ⟨zeroF_lt, zeroF_lt⟩
  | n + 1 => by
    obtain ⟨h1, h2⟩ := flat_lt hL x y n
    obtain ⟨h3, h4, _⟩ := lAt_lt hL n
    exact ⟨joinF_lt h1 (lessF_lt (movedI_lt' h3 _ _)), joinF_lt h2 (movedI_lt' h4 _ _)⟩
end Go.Proofs.Ytpmlepgnokbpaaa
