import Derived.Test.YtpmlepgnokbpaaaM11
import Derived.Test.YtpmlepgnokbpaaaM1
import Derived.Test.YtpmlepgnokbpaaaM3
import Derived.Test.YtpmlepgnokbpaaaRows
/- CELS, PLAINLY: when one is valid; one upon another one. No program is named. -/
namespace Go.Proofs.Ytpmlepgnokbpaaa
open Go.RowKit
set_option linter.unusedVariables false
set_option linter.unusedSimpArgs false
theorem and_less {a b : Nat} (ha : a < 65536) (hb : b < 65536) : a &&& (65535 - b) = 0 ↔ a &&& b = a := by
  constructor
  · intro h
    apply Nat.eq_of_testBit_eq
    intro j
    have h1 : (a &&& (65535 - b)).testBit j = false := by rw [h]; exact Nat.zero_testBit j
    rw [Nat.testBit_and, not_testBit hb] at h1
    rw [Nat.testBit_and]
    by_cases hj : j < 16
    · rw [decide_eq_true hj, Bool.true_and] at h1
      cases ha : a.testBit j <;> cases hb : b.testBit j <;> simp_all
    · have : a.testBit j = false := Nat.testBit_lt_two_pow (Nat.lt_of_lt_of_le ha (Nat.pow_le_pow_right (n := 2) (i := 16) (by decide) (by omega)))
      simp [this]
  · intro h
    apply Nat.eq_of_testBit_eq
    intro j
    rw [Nat.zero_testBit, Nat.testBit_and, not_testBit hb]
    have h1 : (a &&& b).testBit j = a.testBit j := by rw [h]
    rw [Nat.testBit_and] at h1
    cases ha : a.testBit j <;> cases hb : b.testBit j <;> simp_all
def okc (i k : Nat → Nat) : Bool := okF i && okF k && eqF (lessF i k) zeroF
def celC (i k : Nat → Nat) : Int := if okc i k then 0 else 1
theorem okc_impl {i k : Nat → Nat} (hi : ∀ y, i y < 65536) (hk : ∀ y, k y < 65536) : (okF k && eqF (meetF i k) i) = okc i k := by
  unfold okc
  rw [Bool.eq_iff_iff]
  simp only [Bool.and_eq_true, okF_iff, eqF_iff]
  constructor
  · rintro ⟨h1, h2⟩
    refine ⟨⟨fun y hy => ?_, h1⟩, fun y hy => (and_less (hi y) (hk y)).2 (h2 y hy)⟩
    have h3 := h2 y hy
    have h4 : i y &&& k y ≤ k y := Nat.and_le_right
    unfold meetF at h3
    rw [h3] at h4
    exact Nat.le_trans h4 (h1 y hy)
  · rintro ⟨⟨_, h1⟩, h2⟩
    exact ⟨h1, fun y hy => (and_less (hi y) (hk y)).1 (h2 y hy)⟩
theorem okc_true {i k : Nat → Nat} (h : okc i k = true) : okF i = true ∧ okF k = true := by
  unfold okc at h
  simp only [Bool.and_eq_true] at h
  exact h.1
def mvcC (i k : Nat → Nat) (e s : Int) : Int := if okc i k then (if inB e (-12) 12 && inB s (-12) 12 then 0 else 2) else 1
theorem mvcC_cases (i k : Nat → Nat) (e s : Int) : (okc i k = false ∧ mvcC i k e s = 1) ∨ (okc i k = true ∧ inB e (-12) 12 = false ∧ mvcC i k e s = 2) ∨ (okc i k = true ∧ inB e (-12) 12 = true ∧ inB s (-12) 12 = false ∧ mvcC i k e s = 2) ∨ (okc i k = true ∧ inB e (-12) 12 = true ∧ inB s (-12) 12 = true ∧ mvcC i k e s = 0) := by
  unfold mvcC; cases okc i k <;> cases inB e (-12) 12 <;> cases inB s (-12) 12 <;> simp
theorem way_of_ok {i k : Nat → Nat} (h : okc i k = true) (e s : Int) : wayC i e s = mvcC i k e s := by
  unfold wayC mvcC; rw [(okc_true h).1, h]
/-- The ink of one upon the other. -/
def ovI (i k i2 : Nat → Nat) : Nat → Nat := joinF i (lessF i2 k)
def ovC (i k i2 k2 : Nat → Nat) : Int := if okc i k && okc i2 k2 then 0 else 1
theorem ovC_cases (i k i2 k2 : Nat → Nat) : (okc i k = false ∧ ovC i k i2 k2 = 1) ∨ (okc i k = true ∧ okc i2 k2 = false ∧ ovC i k i2 k2 = 1) ∨ (okc i k = true ∧ okc i2 k2 = true ∧ ovC i k i2 k2 = 0) := by
  unfold ovC; cases okc i k <;> cases okc i2 k2 <;> simp
theorem okJoin {f g : Nat → Nat} (hf : okF f = true) (hg : okF g = true) : okF (joinF f g) = true := okF_iff.2 fun y hy => by
  have h1 := okF_iff.1 hf y hy
  have h2 := okF_iff.1 hg y hy
  have := Nat.or_lt_two_pow (n := 12) (show f y < 2 ^ 12 by omega) (show g y < 2 ^ 12 by omega)
  show f y ||| g y ≤ 4095
  omega
theorem okLess {f : Nat → Nat} (g : Nat → Nat) (hf : okF f = true) : okF (lessF f g) = true := okF_iff.2 fun y hy => Nat.le_trans Nat.and_le_left (okF_iff.1 hf y hy)
theorem okMoved {f : Nat → Nat} (hf : okF f = true) (e s : Int) : okF (movedI f e s 12) = true := okF_iff.2 fun y hy => by
  unfold movedI
  split
  · rename_i h
    have h1 := okF_iff.1 hf ((y : Int) - s).toNat (by omega)
    unfold movedRow
    split
    · exact Nat.le_trans (Nat.div_le_self _ _) h1
    · have := Nat.mod_lt (f ((y : Int) - s).toNat * 2 ^ e.toNat) (show 4096 > 0 by decide); omega
  · omega
theorem ok_lt {f : Nat → Nat} (hf : okF f = true) (y : Nat) (hy : y < 12) : f y < 65536 := by have := okF_iff.1 hf y hy; omega
end Go.Proofs.Ytpmlepgnokbpaaa

/- SCENES, PLAINLY: when a layer and a scene are valid; equal scenes; how far a layer is moved. No program is named. -/
namespace Go.Proofs.Ytpmlepgnokbpaaa
open Go.RowKit
set_option linter.unusedVariables false
set_option linter.unusedSimpArgs false
def eqSc (L M : List Ly) : Bool := L.length == M.length && (List.range L.length).all fun i => eqLy (lAt L i) (lAt M i)
theorem eqSc_refl (L : List Ly) : eqSc L L = true := by simp [eqSc, eqLy_refl]
theorem eqSc_len {L M : List Ly} (h : L.length ≠ M.length) : eqSc L M = false := by simp [eqSc, h]
theorem eqSc_iff {L M : List Ly} (h : L.length = M.length) : eqSc L M = true ↔ ∀ i, i < L.length → eqLy (lAt L i) (lAt M i) = true := by simp [eqSc, h]
theorem eqSc_false {L M : List Ly} {i : Nat} (hi : i < L.length) (h : eqLy (lAt L i) (lAt M i) = false) : eqSc L M = false := by
  by_cases hl : L.length = M.length
  · rw [← Bool.not_eq_true, eqSc_iff hl]
    intro hall
    have := hall i hi
    rw [h] at this
    cases this
  · exact eqSc_len hl
def okl (l : Ly) : Bool := okc l.i l.k && inB l.e (-12) 12 && inB l.s (-12) 12 && inB l.h 0 8
theorem okl_cases (l : Ly) : (okc l.i l.k = false ∧ okl l = false) ∨ (okc l.i l.k = true ∧ inB l.e (-12) 12 = false ∧ okl l = false) ∨ (okc l.i l.k = true ∧ inB l.e (-12) 12 = true ∧ inB l.s (-12) 12 = false ∧ okl l = false) ∨ (okc l.i l.k = true ∧ inB l.e (-12) 12 = true ∧ inB l.s (-12) 12 = true ∧ okl l = inB l.h 0 8) := by
  unfold okl; cases okc l.i l.k <;> cases inB l.e (-12) 12 <;> cases inB l.s (-12) 12 <;> simp
theorem okl_true {l : Ly} (h : okl l = true) : okc l.i l.k = true ∧ (-12 ≤ l.e ∧ l.e ≤ 12) ∧ (-12 ≤ l.s ∧ l.s ≤ 12) ∧ 0 ≤ l.h ∧ l.h ≤ 8 := by
  unfold okl at h
  simp only [Bool.and_eq_true, inB_iff] at h
  exact ⟨h.1.1.1, h.1.1.2, h.1.2, h.2⟩
def okS (L : List Ly) : Bool := decide (L.length ≤ 8) && L.all okl
theorem okS_iff {L : List Ly} : okS L = true ↔ L.length ≤ 8 ∧ ∀ i, i < L.length → okl (lAt L i) = true := by
  unfold okS
  rw [Bool.and_eq_true, decide_eq_true_eq, List.all_eq_true]
  constructor
  · rintro ⟨h1, h2⟩
    exact ⟨h1, fun i hi => h2 _ (List.mem_of_getElem? (lAt_get hi))⟩
  · rintro ⟨h1, h2⟩
    refine ⟨h1, fun x hx => ?_⟩
    obtain ⟨i, hi⟩ := List.getElem?_of_mem hx
    have hlt := (List.getElem?_eq_some_iff.1 hi).1
    have := h2 i hlt
    rw [lAt_get hlt] at hi
    rw [← Option.some.inj hi]
    exact this
theorem okS_false_len {L : List Ly} (h : 8 < L.length) : okS L = false := by
  rw [← Bool.not_eq_true, okS_iff]; omega
theorem okS_false_at {L : List Ly} {i : Nat} (hi : i < L.length) (h : okl (lAt L i) = false) : okS L = false := by
  rw [← Bool.not_eq_true, okS_iff]
  rintro ⟨_, h2⟩
  rw [h2 i hi] at h
  cases h
/-- Eighths, rounded down. -/
def eig (n h : Int) : Int := n * h / 8
theorem eig_bounds {n h : Int} (h1 : -100 ≤ n) (h2 : n ≤ 100) (h3 : 0 ≤ h) (h4 : h ≤ 8) : -100 ≤ eig n h ∧ eig n h ≤ 100 := by
  have a1 : n * h ≤ 100 * h := Int.mul_le_mul_of_nonneg_right h2 h3
  have a2 : -100 * h ≤ n * h := Int.mul_le_mul_of_nonneg_right h1 h3
  unfold eig
  generalize n * h = p at *
  omega
theorem mul_bounds8 {n h : Int} (h1 : -100 ≤ n) (h2 : n ≤ 100) (h3 : 0 ≤ h) (h4 : h ≤ 8) : -800 ≤ n * h ∧ n * h ≤ 800 := by
  have a1 : n * h ≤ 100 * h := Int.mul_le_mul_of_nonneg_right h2 h3
  have a2 : -100 * h ≤ n * h := Int.mul_le_mul_of_nonneg_right h1 h3
  generalize n * h = p at *
  omega
def offE (l : Ly) (x : Int) : Int := l.e - eig x l.h
def offS (l : Ly) (y : Int) : Int := l.s - eig y l.h
theorem offE_bounds {l : Ly} (hl : okl l = true) {x : Int} (h1 : -100 ≤ x) (h2 : x ≤ 100) : -200 ≤ offE l x ∧ offE l x ≤ 200 := by
  obtain ⟨_, a, _, b, c⟩ := okl_true hl
  have := eig_bounds h1 h2 b c
  unfold offE; omega
theorem offS_bounds {l : Ly} (hl : okl l = true) {x : Int} (h1 : -100 ≤ x) (h2 : x ≤ 100) : -200 ≤ offS l x ∧ offS l x ≤ 200 := by
  obtain ⟨_, _, a, b, c⟩ := okl_true hl
  have := eig_bounds h1 h2 b c
  unfold offS; omega
/-- The code of a scene and a camera. -/
def camB (x y : Int) : Bool := inB x (-100) 100 && inB y (-100) 100
def camC (L : List Ly) (x y : Int) : Int := if okS L then (if camB x y then 0 else 2) else 1
theorem camC_cases (L : List Ly) (x y : Int) : (okS L = false ∧ camC L x y = 1) ∨ (okS L = true ∧ inB x (-100) 100 = false ∧ camC L x y = 2) ∨ (okS L = true ∧ inB x (-100) 100 = true ∧ inB y (-100) 100 = false ∧ camC L x y = 2) ∨ (okS L = true ∧ inB x (-100) 100 = true ∧ inB y (-100) 100 = true ∧ camC L x y = 0) := by
  unfold camC camB; cases okS L <;> cases inB x (-100) 100 <;> cases inB y (-100) 100 <;> simp
theorem camC_zero {L : List Ly} {x y : Int} (h : camC L x y = 0) : okS L = true ∧ (-100 ≤ x ∧ x ≤ 100) ∧ -100 ≤ y ∧ y ≤ 100 := by
  rcases camC_cases L x y with ⟨_, e⟩ | ⟨_, _, e⟩ | ⟨_, _, _, e⟩ | ⟨a, b, c, e⟩
  · rw [e] at h; cases h
  · rw [e] at h; cases h
  · rw [e] at h; cases h
  · exact ⟨a, inB_iff.1 b, inB_iff.1 c⟩
/-- The cel that looks as the first n layers. -/
def flatI (L : List Ly) (x y : Int) : Nat → (Nat → Nat) × (Nat → Nat)
  | 0 => (zeroF, zeroF)
  | n + 1 => (ovI (flatI L x y n).1 (flatI L x y n).2 (movedI (lAt L n).i (offE (lAt L n) x) (offS (lAt L n) y) 12), joinF (flatI L x y n).2 (movedI (lAt L n).k (offE (lAt L n) x) (offS (lAt L n) y) 12))
theorem movedI_lt' {f : Nat → Nat} (hf : ∀ k, f k < 65536) (e s : Int) (k : Nat) : movedI f e s 12 k < 65536 := by
  unfold movedI
  split
  · exact movedRow_lt (hf _) _
  · decide
theorem flat_lt {L : List Ly} (hL : ltLy L) (x y : Int) : ∀ n, (∀ j, (flatI L x y n).1 j < 65536) ∧ ∀ j, (flatI L x y n).2 j < 65536
  | 0 => ⟨zeroF_lt, zeroF_lt⟩
  | n + 1 => by
    obtain ⟨h1, h2⟩ := flat_lt hL x y n
    obtain ⟨h3, h4, _⟩ := lAt_lt hL n
    exact ⟨joinF_lt h1 (lessF_lt (movedI_lt' h3 _ _)), joinF_lt h2 (movedI_lt' h4 _ _)⟩
end Go.Proofs.Ytpmlepgnokbpaaa

/- impl: Frame.join: two frames, place by place. -/
namespace Go.Proofs.Ytpmlepgnokbpaaa
set_option maxRecDepth 100000
open Go.RowKit
set_option maxHeartbeats 400000 in
theorem join_any (f g : Nat → Nat) (hf : ∀ k, f k < 65536) (hg : ∀ k, g k < 65536) (w : World) :
    Calls Try.prog 99 #[.agg (FC f), .agg (FC g)] w fun e w' => e = .returned (.agg (FC (joinF f g))) ∧ Below w.heap.size w w' := by
  obtain ⟨i0, hi0⟩ : ∃ i, Try.prog.info? 22 = some i := ⟨_, rfl⟩
  go_enter Try.func99, Try.ntmps99
  have b1 := Blk.new w 27 f
  have b2 := Blk.new (w.alloc (.cells (FC f) 27)) 27 g
  have b3 := Blk.new ((w.alloc (.cells (FC f) 27)).alloc (.cells (FC g) 27)) 27 zeroF
  have b1' := (b1.alloc (.cells (FC g) 27)).alloc (.cells (FC zeroF) 27)
  have b2' := b2.alloc (.cells (FC zeroF) 27)
  have hb := (((Below.refl w.heap.size w).alloc (Nat.le_refl _) (.cells (FC f) 27)).alloc (by simp) (.cells (FC g) 27)).alloc (by simp; omega) (.cells (FC zeroF) 27)
  rw [World.size_alloc] at b2 b2'
  rw [World.size_alloc, World.size_alloc] at b3
  clear b1 b2
  rw [FC_zero] at b1' b2' b3 hb
  go_wp2_with (refine wpList_load_fr rfl 27 22 _ rfl _ rfl b2' Try.underlying27 (by kernel_rfl) ?_)
  generalize (((w.alloc (.cells (FC f) 27)).alloc (.cells (FC g) 27)).alloc _) = w1 at *
  go_loopw [8] (fun i wr => ∃ k : Nat, k ≤ 12 ∧ i = .int .i64 k ∧ Blk wr w.heap.size 27 (fun y => if y < k then joinF f g y else f y) ∧ Blk wr (w.heap.size + 1 + 1) 27 zeroF ∧ Below w.heap.size w wr) (fun i _ => 12 - (intOf i).toNat)
  case atStart => exact ⟨0, by omega, rfl, b1'.ext (by simp), b3, hb⟩
  case round =>
    obtain ⟨k, hk, rfl, h1, h3, hb⟩ := hrel
    by_cases hlt : k < 12
    · have ix := fun w => run_index_fr (P := Try.prog) w g hlt Try.underlying27 (by kernel_rfl) hi0 (by kernel_rfl)
      have c1 := h1.cell hlt
      rw [if_neg (Nat.lt_irrefl k)] at c1
      have f1 := h1.free k
      have hop := u16_or_nat (f k) (g k) (hf k) (hg k)
      clear hi0
      go_wp2
      go_roundw
      case rel =>
        go_light
        refine ⟨k + 1, by omega, by go_num, (h1.set hlt _).ext ?_, h3.other _ (by show _ ≠ w.heap.size; omega), hb.setCell (Nat.le_refl _) _⟩
        intro j hj
        unfold upd
        by_cases e : j = k
        · subst e; simp [joinF]
        · rw [if_neg e]; simp only [show j < k + 1 ↔ j < k by omega]
      case measure => simp [intOf]; omega
    · go_wp2_with (first | (refine wpList_load_fr rfl 27 22 _ rfl _ rfl h1 Try.underlying27 (by kernel_rfl) ?_) | (refine wpList_store_fr rfl 27 _ _ rfl _ rfl h3 rfl (by kernel_rfl) ?_))
      refine bodyPost_ret_fr (p := 4) (ty := 27) (e := 22) rfl rfl (h3.setRow _) Try.underlying27 (by kernel_rfl) rfl ⟨?_, below_setRow hb (by omega) _⟩
      congr 2
      exact FC_ext (fun j hj => by rw [if_pos (by omega)])
end Go.Proofs.Ytpmlepgnokbpaaa
