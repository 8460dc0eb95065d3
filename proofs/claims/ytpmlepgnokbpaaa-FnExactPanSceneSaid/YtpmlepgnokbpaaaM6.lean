import Derived.Test.YtpmlepgnokbpaaaM5
import Derived.Test.YtpmlepgnokbpaaaM1
import Derived.Test.YtpmlepgnokbpaaaM3
import Derived.Test.YtpmlepgnokbpaaaRows
import Derived.Test.YtpmlepgnokbpaaaM4
import Derived.Test.YtpmlepgnokbpaaaM2
/- CELS, PLAINLY: when one is valid; one upon another one. No program is named. -/
namespace Go.Proofs.Ytpmlepgnokbpaaa
open Go.RowKit
set_option linter.unusedVariables false
set_option linter.unusedSimpArgs false
theorem and_less {a b : Nat} (ha : a < 65536) (hb : b < 65536) : a &&& (65535 - b) = 0 ↔ a &&& b = a := by
  constructor
  · intro h
    apply Nat.eq_of_testBit_eq
    intro j
    have h1 : (a &&& (65535 - b)).testBit j = false := by rw [h]; exact Nat.zero_testBit j
    rw [Nat.testBit_and, not_testBit hb] at h1
    rw [Nat.testBit_and]
    by_cases hj : j < 16
    · rw [decide_eq_true hj, Bool.true_and] at h1
      cases ha : a.testBit j <;> cases hb : b.testBit j <;> simp_all
    · have : a.testBit j = false := Nat.testBit_lt_two_pow (Nat.lt_of_lt_of_le ha (Nat.pow_le_pow_right (n := 2) (i := 16) (by decide) (by omega)))
      simp [this]
  · intro h
    apply Nat.eq_of_testBit_eq
    intro j
    rw [Nat.zero_testBit, Nat.testBit_and, not_testBit hb]
    have h1 : (a &&& b).testBit j = a.testBit j := by rw [h]
    rw [Nat.testBit_and] at h1
    cases ha : a.testBit j <;> cases hb : b.testBit j <;> simp_all
def okc (i k : Nat → Nat) : Bool := okF i && okF k && eqF (lessF i k) zeroF
def celC (i k : Nat → Nat) : Int := if okc i k then 0 else 1
theorem okc_impl {i k : Nat → Nat} (hi : ∀ y, i y < 65536) (hk : ∀ y, k y < 65536) : (okF k && eqF (meetF i k) i) = okc i k := by
  unfold okc
  rw [Bool.eq_iff_iff]
  simp only [Bool.and_eq_true, okF_iff, eqF_iff]
  constructor
  · rintro ⟨h1, h2⟩
    refine ⟨⟨fun y hy => ?_, h1⟩, fun y hy => (and_less (hi y) (hk y)).2 (h2 y hy)⟩
    have h3 := h2 y hy
    have h4 : i y &&& k y ≤ k y := Nat.and_le_right
    unfold meetF at h3
    rw [h3] at h4
    exact Nat.le_trans h4 (h1 y hy)
  · rintro ⟨⟨_, h1⟩, h2⟩
    exact ⟨h1, fun y hy => (and_less (hi y) (hk y)).1 (h2 y hy)⟩
theorem okc_true {i k : Nat → Nat} (h : okc i k = true) : okF i = true ∧ okF k = true := by
  unfold okc at h
  simp only [Bool.and_eq_true] at h
  exact h.1
def mvcC (i k : Nat → Nat) (e s : Int) : Int := if okc i k then (if inB e (-12) 12 && inB s (-12) 12 then 0 else 2) else 1
theorem mvcC_cases (i k : Nat → Nat) (e s : Int) : (okc i k = false ∧ mvcC i k e s = 1) ∨ (okc i k = true ∧ inB e (-12) 12 = false ∧ mvcC i k e s = 2) ∨ (okc i k = true ∧ inB e (-12) 12 = true ∧ inB s (-12) 12 = false ∧ mvcC i k e s = 2) ∨ (okc i k = true ∧ inB e (-12) 12 = true ∧ inB s (-12) 12 = true ∧ mvcC i k e s = 0) := by
  unfold mvcC; cases okc i k <;> cases inB e (-12) 12 <;> cases inB s (-12) 12 <;> simp
theorem way_of_ok {i k : Nat → Nat} (h : okc i k = true) (e s : Int) : wayC i e s = mvcC i k e s := by
  unfold wayC mvcC; rw [(okc_true h).1, h]
/-- The ink of one upon the other. -/
def ovI (i k i2 : Nat → Nat) : Nat → Nat := joinF i (lessF i2 k)
def ovC (i k i2 k2 : Nat → Nat) : Int := if okc i k && okc i2 k2 then 0 else 1
theorem ovC_cases (i k i2 k2 : Nat → Nat) : (okc i k = false ∧ ovC i k i2 k2 = 1) ∨ (okc i k = true ∧ okc i2 k2 = false ∧ ovC i k i2 k2 = 1) ∨ (okc i k = true ∧ okc i2 k2 = true ∧ ovC i k i2 k2 = 0) := by
  unfold ovC; cases okc i k <;> cases okc i2 k2 <;> simp
theorem okJoin {f g : Nat → Nat} (hf : okF f = true) (hg : okF g = true) : okF (joinF f g) = true := okF_iff.2 fun y hy => by
  have h1 := okF_iff.1 hf y hy
  have h2 := okF_iff.1 hg y hy
  have := Nat.or_lt_two_pow (n := 12) (show f y < 2 ^ 12 by omega) (show g y < 2 ^ 12 by omega)
  show f y ||| g y ≤ 4095
  omega
theorem okLess {f : Nat → Nat} (g : Nat → Nat) (hf : okF f = true) : okF (lessF f g) = true := okF_iff.2 fun y hy => Nat.le_trans Nat.and_le_left (okF_iff.1 hf y hy)
theorem okMoved {f : Nat → Nat} (hf : okF f = true) (e s : Int) : okF (movedI f e s 12) = true := okF_iff.2 fun y hy => by
  unfold movedI
  split
  · rename_i h
    have h1 := okF_iff.1 hf ((y : Int) - s).toNat (by omega)
    unfold movedRow
    split
    · exact Nat.le_trans (Nat.div_le_self _ _) h1
    · have := Nat.mod_lt (f ((y : Int) - s).toNat * 2 ^ e.toNat) (show 4096 > 0 by decide); omega
  · omega
theorem ok_lt {f : Nat → Nat} (hf : okF f = true) (y : Nat) (hy : y < 12) : f y < 65536 := by have := okF_iff.1 hf y hy; omega
end Go.Proofs.Ytpmlepgnokbpaaa

/- SCENES, PLAINLY: when a layer and a scene are valid; equal scenes; how far a layer is moved. No program is named. -/
namespace Go.Proofs.Ytpmlepgnokbpaaa
open Go.RowKit
set_option linter.unusedVariables false
set_option linter.unusedSimpArgs false
def eqSc (L M : List Ly) : Bool := L.length == M.length && (List.range L.length).all fun i => eqLy (lAt L i) (lAt M i)
theorem eqSc_refl (L : List Ly) : eqSc L L = true := by simp [eqSc, eqLy_refl]
theorem eqSc_len {L M : List Ly} (h : L.length ≠ M.length) : eqSc L M = false := by simp [eqSc, h]
theorem eqSc_iff {L M : List Ly} (h : L.length = M.length) : eqSc L M = true ↔ ∀ i, i < L.length → eqLy (lAt L i) (lAt M i) = true := by simp [eqSc, h]
theorem eqSc_false {L M : List Ly} {i : Nat} (hi : i < L.length) (h : eqLy (lAt L i) (lAt M i) = false) : eqSc L M = false := by
  by_cases hl : L.length = M.length
  · rw [← Bool.not_eq_true, eqSc_iff hl]
    intro hall
    have := hall i hi
    rw [h] at this
    cases this
  · exact eqSc_len hl
def okl (l : Ly) : Bool := okc l.i l.k && inB l.e (-12) 12 && inB l.s (-12) 12 && inB l.h 0 8
theorem okl_cases (l : Ly) : (okc l.i l.k = false ∧ okl l = false) ∨ (okc l.i l.k = true ∧ inB l.e (-12) 12 = false ∧ okl l = false) ∨ (okc l.i l.k = true ∧ inB l.e (-12) 12 = true ∧ inB l.s (-12) 12 = false ∧ okl l = false) ∨ (okc l.i l.k = true ∧ inB l.e (-12) 12 = true ∧ inB l.s (-12) 12 = true ∧ okl l = inB l.h 0 8) := by
  unfold okl; cases okc l.i l.k <;> cases inB l.e (-12) 12 <;> cases inB l.s (-12) 12 <;> simp
theorem okl_true {l : Ly} (h : okl l = true) : okc l.i l.k = true ∧ (-12 ≤ l.e ∧ l.e ≤ 12) ∧ (-12 ≤ l.s ∧ l.s ≤ 12) ∧ 0 ≤ l.h ∧ l.h ≤ 8 := by
  unfold okl at h
  simp only [Bool.and_eq_true, inB_iff] at h
  exact ⟨h.1.1.1, h.1.1.2, h.1.2, h.2⟩
def okS (L : List Ly) : Bool := decide (L.length ≤ 8) && L.all okl
theorem okS_iff {L : List Ly} : okS L = true ↔ L.length ≤ 8 ∧ ∀ i, i < L.length → okl (lAt L i) = true := by
  unfold okS
  rw [Bool.and_eq_true, decide_eq_true_eq, List.all_eq_true]
  constructor
  · rintro ⟨h1, h2⟩
    exact ⟨h1, fun i hi => h2 _ (List.mem_of_getElem? (lAt_get hi))⟩
  · rintro ⟨h1, h2⟩
    refine ⟨h1, fun x hx => ?_⟩
    obtain ⟨i, hi⟩ := List.getElem?_of_mem hx
    have hlt := (List.getElem?_eq_some_iff.1 hi).1
    have := h2 i hlt
    rw [lAt_get hlt] at hi
    rw [← Option.some.inj hi]
    exact this
theorem okS_false_len {L : List Ly} (h : 8 < L.length) : okS L = false := by
  rw [← Bool.not_eq_true, okS_iff]; omega
theorem okS_false_at {L : List Ly} {i : Nat} (hi : i < L.length) (h : okl (lAt L i) = false) : okS L = false := by
  rw [← Bool.not_eq_true, okS_iff]
  rintro ⟨_, h2⟩
  rw [h2 i hi] at h
  cases h
/-- Eighths, rounded down. -/
def eig (n h : Int) : Int := n * h / 8
theorem eig_bounds {n h : Int} (h1 : -100 ≤ n) (h2 : n ≤ 100) (h3 : 0 ≤ h) (h4 : h ≤ 8) : -100 ≤ eig n h ∧ eig n h ≤ 100 := by
  have a1 : n * h ≤ 100 * h := Int.mul_le_mul_of_nonneg_right h2 h3
  have a2 : -100 * h ≤ n * h := Int.mul_le_mul_of_nonneg_right h1 h3
  unfold eig
  generalize n * h = p at *
  omega
theorem mul_bounds8 {n h : Int} (h1 : -100 ≤ n) (h2 : n ≤ 100) (h3 : 0 ≤ h) (h4 : h ≤ 8) : -800 ≤ n * h ∧ n * h ≤ 800 := by
  have a1 : n * h ≤ 100 * h := Int.mul_le_mul_of_nonneg_right h2 h3
  have a2 : -100 * h ≤ n * h := Int.mul_le_mul_of_nonneg_right h1 h3
  generalize n * h = p at *
  omega
def offE (l : Ly) (x : Int) : Int := l.e - eig x l.h
def offS (l : Ly) (y : Int) : Int := l.s - eig y l.h
theorem offE_bounds {l : Ly} (hl : okl l = true) {x : Int} (h1 : -100 ≤ x) (h2 : x ≤ 100) : -200 ≤ offE l x ∧ offE l x ≤ 200 := by
  obtain ⟨_, a, _, b, c⟩ := okl_true hl
  have := eig_bounds h1 h2 b c
  unfold offE; omega
theorem offS_bounds {l : Ly} (hl : okl l = true) {x : Int} (h1 : -100 ≤ x) (h2 : x ≤ 100) : -200 ≤ offS l x ∧ offS l x ≤ 200 := by
  obtain ⟨_, _, a, b, c⟩ := okl_true hl
  have := eig_bounds h1 h2 b c
  unfold offS; omega
/-- The code of a scene and a camera. -/
def camB (x y : Int) : Bool := inB x (-100) 100 && inB y (-100) 100
def camC (L : List Ly) (x y : Int) : Int := if okS L then (if camB x y then 0 else 2) else 1
theorem camC_cases (L : List Ly) (x y : Int) : (okS L = false ∧ camC L x y = 1) ∨ (okS L = true ∧ inB x (-100) 100 = false ∧ camC L x y = 2) ∨ (okS L = true ∧ inB x (-100) 100 = true ∧ inB y (-100) 100 = false ∧ camC L x y = 2) ∨ (okS L = true ∧ inB x (-100) 100 = true ∧ inB y (-100) 100 = true ∧ camC L x y = 0) := by
  unfold camC camB; cases okS L <;> cases inB x (-100) 100 <;> cases inB y (-100) 100 <;> simp
theorem camC_zero {L : List Ly} {x y : Int} (h : camC L x y = 0) : okS L = true ∧ (-100 ≤ x ∧ x ≤ 100) ∧ -100 ≤ y ∧ y ≤ 100 := by
  rcases camC_cases L x y with ⟨_, e⟩ | ⟨_, _, e⟩ | ⟨_, _, _, e⟩ | ⟨a, b, c, e⟩
  · rw [e] at h; cases h
  · rw [e] at h; cases h
  · rw [e] at h; cases h
  · exact ⟨a, inB_iff.1 b, inB_iff.1 c⟩
/-- The cel that looks as the first n layers. -/
def flatI (L : List Ly) (x y : Int) : Nat → (Nat → Nat) × (Nat → Nat)
  | 0 => (zeroF, zeroF)
  | n + 1 => (ovI (flatI L x y n).1 (flatI L x y n).2 (movedI (lAt L n).i (offE (lAt L n) x) (offS (lAt L n) y) 12), joinF (flatI L x y n).2 (movedI (lAt L n).k (offE (lAt L n) x) (offS (lAt L n) y) 12))
theorem movedI_lt' {f : Nat → Nat} (hf : ∀ k, f k < 65536) (e s : Int) (k : Nat) : movedI f e s 12 k < 65536 := by
  unfold movedI
  split
  · exact movedRow_lt (hf _) _
  · decide
theorem flat_lt {L : List Ly} (hL : ltLy L) (x y : Int) : ∀ n, (∀ j, (flatI L x y n).1 j < 65536) ∧ ∀ j, (flatI L x y n).2 j < 65536
  | 0 => ⟨zeroF_lt, zeroF_lt⟩
  | n + 1 => by
    obtain ⟨h1, h2⟩ := flat_lt hL x y n
    obtain ⟨h3, h4, _⟩ := lAt_lt hL n
    exact ⟨joinF_lt h1 (lessF_lt (movedI_lt' h3 _ _)), joinF_lt h2 (movedI_lt' h4 _ _)⟩
end Go.Proofs.Ytpmlepgnokbpaaa

/- The laws' own helpers over cels: toCel, eqCel. -/
namespace Go.Proofs.Ytpmlepgnokbpaaa
set_option maxRecDepth 100000
open Go.RowKit
set_option linter.unusedVariables false
set_option linter.unusedSimpArgs false
set_option maxHeartbeats 1000000 in
theorem toCel_any (i k : Nat → Nat) (w : World) :
    Calls Try.prog 16 #[.agg (CC i k)] w fun e w' => e = .returned (.agg (CC i k)) ∧ Below w.heap.size w w' := by
  have a1 := ((CelAt.new w 25 i k).alloc (.cells (CC zeroF zeroF) 29)).alloc (.cells (CC zeroF zeroF) 29)
  have a2 := (CelAt.new (w.alloc (.cells (CC i k) 25)) 29 zeroF zeroF).alloc (.cells (CC zeroF zeroF) 29)
  have a3 := CelAt.new ((w.alloc (.cells (CC i k) 25)).alloc (.cells (CC zeroF zeroF) 29)) 29 zeroF zeroF
  rw [World.size_alloc] at a2
  rw [World.size_alloc, World.size_alloc] at a3
  have h0 := (((Below.refl w.heap.size w).alloc (Nat.le_refl _) (.cells (CC i k) 25)).alloc (by simp) (.cells (CC zeroF zeroF) 29)).alloc (by simp; omega) (.cells (CC zeroF zeroF) 29)
  rw [CC_zero] at a1 a2 a3 h0
  go_enter Try.func16, Try.ntmps16
  go_wp2_with (first
    | (refine wpList_load_at rfl 23 22 _ rfl _ _ rfl (by first | with_reducible exact a1.ink | with_reducible exact a1.cov) Try.underlying23 (by kernel_rfl) ?_)
    | (go_at_call 26; refine (toFrame_any _ _).mono ?_; rintro e w2 ⟨rfl, hb⟩; replace a1 := a1.below hb a1.lt; replace a2 := a2.below hb a2.lt; replace a3 := a3.below hb a3.lt; replace h0 := grown_below h0 hb h0.size; clear hb)
    | (refine wpList_store_ink rfl 27 _ _ rfl a3 rfl rfl (by kernel_rfl) ?_; intro a3' hw; replace a1 := a1.wrote hw (by omega); replace a2 := a2.wrote hw (by omega); replace h0 := hw.below h0 (by omega) h0.size; clear a3; have a3 := a3'; clear hw a3'; generalize World.setCells _ _ _ _ = w3 at *)
    | (refine wpList_store_cov rfl 27 _ _ rfl a3 rfl rfl (by kernel_rfl) ?_; intro a3' hw; replace a1 := a1.wrote hw (by omega); replace a2 := a2.wrote hw (by omega); replace h0 := hw.below h0 (by omega) h0.size; clear a3; have a3 := a3'; clear hw a3'; generalize World.setCells _ _ _ _ = w3 at *)
    | (refine wpList_load_cel rfl 29 _ rfl rfl a3 Try.underlying29 rfl (by kernel_rfl) ?_)
    | (refine wpList_store_cel rfl 29 _ _ rfl a2 rfl rfl (by kernel_rfl) ?_; intro a2'))
  exact bodyPost_ret_row (p := 2) (ty := 29) rfl rfl a2' Try.underlying29 rfl (by kernel_rfl) rfl ⟨rfl, below_setRow h0 (by omega) _⟩
set_option maxHeartbeats 1000000 in
theorem eqCel_same (i k : Nat → Nat) (w : World) :
    Calls Try.prog 28 #[.agg (CC i k), .agg (CC i k)] w fun e w' => e = .returned (.bool true) ∧ Below w.heap.size w w' := by
  have a1 := (CelAt.new w 29 i k).alloc (.cells (CC i k) 29)
  have a2 := CelAt.new (w.alloc (.cells (CC i k) 29)) 29 i k
  rw [World.size_alloc] at a2
  have h0 := ((Below.refl w.heap.size w).alloc (Nat.le_refl _) (.cells (CC i k) 29)).alloc (by simp) (.cells (CC i k) 29)
  have cI := fun w => eqFrame_any i i w
  have cK := fun w => eqFrame_any k k w
  rw [eqF_refl] at cI cK
  go_enter Try.func28, Try.ntmps28
  go_wp2_with (first
    | (refine wpList_load_at rfl 27 22 _ rfl _ _ rfl (by first | with_reducible exact a1.ink | with_reducible exact a1.cov | with_reducible exact a2.ink | with_reducible exact a2.cov) Try.underlying27 (by kernel_rfl) ?_)
    | (go_at_call 35; first | (refine (cI _).mono ?_; clear cI; rintro e w2 ⟨rfl, hb⟩; replace a1 := a1.below hb a1.lt; replace a2 := a2.below hb a2.lt; replace h0 := grown_below h0 hb h0.size; clear hb) | (refine (cK _).mono ?_; rintro e w2 ⟨rfl, hb⟩; replace h0 := grown_below h0 hb h0.size; clear hb)))
  go_ret
  exact ⟨rfl, h0⟩
end Go.Proofs.Ytpmlepgnokbpaaa
