import Derived.Test.YtpmlepgnokbpaaaM6
import Derived.Test.YtpmlepgnokbpaaaRows
import Derived.Test.YtpmlepgnokbpaaaM1
import Derived.RegionTactic
import Derived.Test.YtpmlepgnokbpaaaM2
/- A CAMERA THAT MOVES, PLAINLY: in range at the first and the last page is in range at each. No program is named. -/
namespace Go.Proofs.Ytpmlepgnokbpaaa
open Go.RowKit
set_option linter.unusedVariables false
set_option linter.unusedSimpArgs false
def mulK (k : Nat) (e : Int) : Int := (k : Int) * e
theorem mulK_bounds {k : Nat} {e : Int} (hk : k ≤ 40) (h1 : -100 ≤ e) (h2 : e ≤ 100) : -4000 ≤ mulK k e ∧ mulK k e ≤ 4000 := by
  unfold mulK
  have a1 : (k : Int) * e ≤ k * 100 := Int.mul_le_mul_of_nonneg_left h2 (by omega)
  have a2 : (k : Int) * (-100) ≤ k * e := Int.mul_le_mul_of_nonneg_left h1 (by omega)
  generalize (k : Int) * e = p at *
  omega
theorem mulK_mid {k n : Nat} {e : Int} (hk : k ≤ n) : (0 ≤ mulK k e ∧ mulK k e ≤ mulK n e) ∨ (mulK n e ≤ mulK k e ∧ mulK k e ≤ 0) := by
  unfold mulK
  have hk' : (k : Int) ≤ n := by omega
  rcases Int.le_total 0 e with h | h
  · left
    exact ⟨Int.mul_nonneg (by omega) h, Int.mul_le_mul_of_nonneg_right hk' h⟩
  · right
    exact ⟨Int.mul_le_mul_of_nonpos_right hk' h, Int.mul_nonpos_of_nonneg_of_nonpos (by omega) h⟩
/-- Where the camera is at page k. -/
def panX (x e : Int) (k : Nat) : Int := x + mulK k e
theorem mulK_zero (e : Int) : mulK 0 e = 0 := by unfold mulK; simp
def lastK (n : Int) : Nat := (n - 1).toNat
def panB (x y e s n : Int) : Bool := camB x y && camB e s && inB n 0 40 && camB (panX x e (lastK n)) (panX y s (lastK n))
theorem inB_mid {x e : Int} {k n : Nat} (hk : k ≤ n) (h0 : inB x (-100) 100 = true) (h1 : inB (panX x e n) (-100) 100 = true) : inB (panX x e k) (-100) 100 = true := by
  rw [inB_iff] at *
  have hm := mulK_mid (e := e) hk
  unfold panX at *
  omega
theorem panB_all {x y e s n : Int} (h : panB x y e s n = true) (k : Nat) (hk : (k : Int) < n) : camB (panX x e k) (panX y s k) = true := by
  unfold panB camB at *
  simp only [Bool.and_eq_true] at h ⊢
  have hl : k ≤ lastK n := by unfold lastK; omega
  exact ⟨inB_mid hl h.1.1.1.1 h.2.1, inB_mid hl h.1.1.1.2 h.2.2⟩
theorem panB_of {x y e s n : Int} (h0 : camB x y = true) (h1 : camB e s = true) (h2 : inB n 0 40 = true) (h : ∀ k : Nat, (k : Int) < n → camB (panX x e k) (panX y s k) = true) : panB x y e s n = true := by
  unfold panB
  rw [h0, h1, h2, Bool.true_and, Bool.true_and, Bool.true_and]
  have hn := inB_iff.1 h2
  by_cases hz : n ≤ 0
  · have : lastK n = 0 := by unfold lastK; omega
    rw [this]
    unfold panX
    rw [mulK_zero, mulK_zero, Int.add_zero, Int.add_zero]
    exact h0
  · exact h (lastK n) (by unfold lastK; omega)
def panC (L : List Ly) (x y e s n : Int) : Int := if okS L then (if panB x y e s n then 0 else 2) else 1
def panL (L : List Ly) (x y e s n : Int) : List (Nat → Nat) := tab (fun k => (flatI L (panX x e k) (panX y s k) L.length).1) n.toNat
theorem panL_len (L : List Ly) (x y e s n : Int) : (panL L x y e s n).length = n.toNat := by unfold panL; rw [tab_length]
theorem pan_if_len (L : List Ly) (x y e s n : Int) : (ifL (panC L x y e s n) (panL L x y e s n)).length ≤ 1000 := by
  unfold ifL
  split
  · rename_i h
    rw [panL_len]
    have hp : panB x y e s n = true := by
      unfold panC at h
      split at h
      · split at h
        · assumption
        · cases h
      · cases h
    unfold panB at hp
    simp only [Bool.and_eq_true] at hp
    have := inB_iff.1 hp.1.2
    omega
  · simp
end Go.Proofs.Ytpmlepgnokbpaaa

/- spec: l00In, l01Ok, ValidFrame, l01Place, l01Asked, l01Has, l01Put. -/
namespace Go.Proofs.Ytpmlepgnokbpaaa
set_option maxRecDepth 100000
open Go.RowKit
theorem in_any (n a b : Int) (w : World) :
    Calls Try.prog 73 #[.int .i64 n, .int .i64 a, .int .i64 b] w fun e w' => e = .returned (.bool (inB n a b)) ∧ w = w' := by
  by_cases h1 : a ≤ n
  · by_cases h2 : n ≤ b
    · go_enter Try.func73, Try.ntmps73
      go_wp2
      go_ret
      exact ⟨ret_bool (by rw [inB_iff.2 ⟨h1, h2⟩]), rfl⟩
    · go_enter Try.func73, Try.ntmps73
      go_wp2
      go_ret
      exact ⟨ret_bool (by rw [inB_false.2 (by omega)]), rfl⟩
  · go_enter Try.func73, Try.ntmps73
    go_wp2
    go_ret
    exact ⟨ret_bool (by rw [inB_false.2 (by omega)]), rfl⟩
theorem place_any (x y : Int) (w : World) :
    Calls Try.prog 122 #[.int .i64 x, .int .i64 y] w fun e w' => e = .returned (.bool (plB x y)) ∧ w = w' := by
  cases hx : inB x 0 11 with
  | true =>
    have HX := Lib.hid hx
    go_enter Try.func122, Try.ntmps122
    go_wp2_with (go_at_call 73; refine (in_any _ _ _ _).mono ?_; rintro e w' ⟨rfl, rfl⟩)
    go_ret
    refine ⟨ret_bool ?_, rfl⟩
    have h1 := inB_iff.1 HX.out
    show inB y 0 11 = _
    simp [inB, plB, h1.1, h1.2]
  | false =>
    have HX := Lib.hid hx
    go_enter Try.func122, Try.ntmps122
    go_wp2_with (go_at_call 73; refine (in_any _ _ _ _).mono ?_; rintro e w' ⟨rfl, rfl⟩)
    go_ret
    refine ⟨ret_bool ?_, rfl⟩
    have h1 := inB_false.1 HX.out
    exact (plB_false.2 (by omega)).symm
set_option maxHeartbeats 400000 in
theorem ok_any (B : Nat) (f : Nat → Nat) (w : World) (hB : Blk w B 27 f) :
    Calls Try.prog 91 #[.pointer (some ⟨B, 0, none⟩)] w fun e w' => e = .returned (.bool (okF f)) ∧ w = w' := by
  go_enter Try.func91, Try.ntmps91
  go_wp2
  go_loop [3] (fun i => ∃ k : Nat, k ≤ 12 ∧ i = .int .i64 k ∧ (∀ j, j < k → f j ≤ 4095)) (fun i => 12 - (intOf i).toNat)
  case atStart => exact ⟨0, by omega, rfl, by omega⟩
  case round =>
    obtain ⟨k, hk, rfl, he⟩ := hrel
    have HE := Lib.hid he
    clear he
    by_cases hlt : k < 12
    · have c1 := hB.cell hlt
      by_cases hf : f k ≤ 4095
      · go_wp2
        go_round
        case rel =>
          go_light
          refine ⟨k + 1, by omega, by go_num, ?_⟩
          intro j hj
          rcases Nat.lt_succ_iff_lt_or_eq.1 hj with h | rfl
          · exact HE.out j h
          · exact hf
        case measure => simp [intOf]; omega
      · go_wp2
        go_ret
        exact ⟨ret_bool (okF_false.2 ⟨k, hlt, by omega⟩).symm, rfl⟩
    · go_wp2
      go_ret
      have h12 : k = 12 := by omega
      subst h12
      exact ⟨ret_bool (okF_iff.2 HE.out).symm, rfl⟩
set_option maxHeartbeats 400000 in
theorem has_any (B : Nat) (f : Nat → Nat) (x y : Int) (w : World) (hf : ∀ k, f k < 65536) (hB : Blk w B 27 f) :
    Calls Try.prog 121 #[.pointer (some ⟨B, 0, none⟩), .int .i64 x, .int .i64 y] w fun e w' => e = .returned (.bool (hasF f x y)) ∧ w = w' := by
  cases hp : plB x y with
  | false =>
    go_enter Try.func121, Try.ntmps121
    go_wp2_with (go_at_call 122; refine (place_any _ _ _).mono ?_; rintro e w' ⟨rfl, rfl⟩)
    go_ret
    exact ⟨ret_bool (by simp [hasF, hp]), rfl⟩
  | true =>
    have h1 := plB_iff.1 hp
    obtain ⟨x, rfl⟩ := Int.eq_ofNat_of_zero_le h1.1
    obtain ⟨y, rfl⟩ := Int.eq_ofNat_of_zero_le h1.2.2.1
    have hx : x < 12 := by omega
    have hy : y < 12 := by omega
    have hfy := hf y
    clear h1 hf
    have c1 := hB.cell hy
    go_enter Try.func121, Try.ntmps121
    go_wp2_with (go_at_call 122; refine (place_any _ _ _).mono ?_; rintro e w' ⟨rfl, rfl⟩)
    go_ret
    refine ⟨ret_bool ?_, rfl⟩
    go_light
    rw [tmod_bit]
    simp [hasF, hp]
set_option maxHeartbeats 400000 in
theorem put_any (B : Nat) (f : Nat → Nat) (x y : Int) (w : World) (hf : ∀ k, f k < 65536) (hB : Blk w B 27 f) :
    Calls Try.prog 114 #[.pointer (some ⟨B, 0, none⟩), .int .i64 x, .int .i64 y] w fun e w' => e = .returned (.tuple #[]) ∧ Wrote B w w' ∧ Blk w' B 27 (putF f x y) := by
  cases hp : plB x y with
  | false =>
    go_enter Try.func114, Try.ntmps114
    go_wp2_with (go_at_call 122; refine (place_any _ _ _).mono ?_; rintro e w' ⟨rfl, rfl⟩)
    go_end0
    exact ⟨rfl, Wrote.refl _ _, by simp only [putF, hp]; exact hB⟩
  | true =>
    have h1 := plB_iff.1 hp
    obtain ⟨x, rfl⟩ := Int.eq_ofNat_of_zero_le h1.1
    obtain ⟨y, rfl⟩ := Int.eq_ofNat_of_zero_le h1.2.2.1
    have hx : x < 12 := by omega
    have hy : y < 12 := by omega
    have hfy := hf y
    clear h1 hf
    have c1 := hB.cell hy
    have c2 := hB.free y
    go_enter Try.func114, Try.ntmps114
    go_wp2_with (go_at_call 122; refine (place_any _ _ _).mono ?_; rintro e w' ⟨rfl, rfl⟩)
    go_region
    all_goals go_end0
    rw [u16_or_pow hfy (by omega)]
    refine ⟨rfl, ((Wrote.refl B w).setCell (p := ⟨B, y, none⟩) rfl _).drew, ?_⟩
    simp only [putF, hp, if_true, Int.toNat_natCast]
    exact hB.set hy _
end Go.Proofs.Ytpmlepgnokbpaaa

/- math/bits.OnesCount16. -/
namespace Go.Proofs.Ytpmlepgnokbpaaa
open Go.RowKit
end Go.Proofs.Ytpmlepgnokbpaaa
