/- spec: l00In, l01Ok, ValidFrame, l01Place, l01Asked, l01Has, l01Put. -/
import Derived.Test.YtjbjbdkmomkclabRows
import Derived.Test.YtjbjbdkmomkclabFr
import Derived.RegionTactic
namespace Go.Proofs.Ytjbjbdkmomkclab
set_option maxRecDepth 100000
open Go.RowKit
theorem in_any (n a b : Int) (w : World) :
    Calls Try.prog 78 #[.int .i64 n, .int .i64 a, .int .i64 b] w fun e w' => e = .returned (.bool (inB n a b)) ∧ w = w' := by
  by_cases h1 : a ≤ n
  · by_cases h2 : n ≤ b
    · go_enter Try.func78, Try.ntmps78
      go_wp2
      go_ret
      exact ⟨ret_bool (by rw [inB_iff.2 ⟨h1, h2⟩]), rfl⟩
    · go_enter Try.func78, Try.ntmps78
      go_wp2
      go_ret
      exact ⟨ret_bool (by rw [inB_false.2 (by omega)]), rfl⟩
  · go_enter Try.func78, Try.ntmps78
    go_wp2
    go_ret
    exact ⟨ret_bool (by rw [inB_false.2 (by omega)]), rfl⟩
theorem place_any (x y : Int) (w : World) :
    Calls Try.prog 132 #[.int .i64 x, .int .i64 y] w fun e w' => e = .returned (.bool (plB x y)) ∧ w = w' := by
  cases hx : inB x 0 11 with
  | true =>
    have HX := Lib.hid hx
    go_enter Try.func132, Try.ntmps132
    go_wp2_with (go_at_call 78; refine (in_any _ _ _ _).mono ?_; rintro e w' ⟨rfl, rfl⟩)
    go_ret
    refine ⟨ret_bool ?_, rfl⟩
    have h1 := inB_iff.1 HX.out
    show inB y 0 11 = _
    simp [inB, plB, h1.1, h1.2]
  | false =>
    have HX := Lib.hid hx
    go_enter Try.func132, Try.ntmps132
    go_wp2_with (go_at_call 78; refine (in_any _ _ _ _).mono ?_; rintro e w' ⟨rfl, rfl⟩)
    go_ret
    refine ⟨ret_bool ?_, rfl⟩
    have h1 := inB_false.1 HX.out
    exact (plB_false.2 (by omega)).symm
set_option maxHeartbeats 400000 in
theorem ok_any (B : Nat) (f : Nat → Nat) (w : World) (hB : Blk w B 65 f) :
    Calls Try.prog 84 #[.pointer (some ⟨B, 0, none⟩)] w fun e w' => e = .returned (.bool (okF f)) ∧ w = w' := by
  go_enter Try.func84, Try.ntmps84
  go_wp2
  go_loop [3] (fun i => ∃ k : Nat, k ≤ 12 ∧ i = .int .i64 k ∧ (∀ j, j < k → f j ≤ 4095)) (fun i => 12 - (intOf i).toNat)
  case atStart => exact ⟨0, by omega, rfl, by omega⟩
  case round =>
    obtain ⟨k, hk, rfl, he⟩ := hrel
    have HE := Lib.hid he
    clear he
    by_cases hlt : k < 12
    · have c1 := hB.cell hlt
      by_cases hf : f k ≤ 4095
      · go_wp2
        go_round
        case rel =>
          go_light
          refine ⟨k + 1, by omega, by go_num, ?_⟩
          intro j hj
          rcases Nat.lt_succ_iff_lt_or_eq.1 hj with h | rfl
          · exact HE.out j h
          · exact hf
        case measure => simp [intOf]; omega
      · go_wp2
        go_ret
        exact ⟨ret_bool (okF_false.2 ⟨k, hlt, by omega⟩).symm, rfl⟩
    · go_wp2
      go_ret
      have h12 : k = 12 := by omega
      subst h12
      exact ⟨ret_bool (okF_iff.2 HE.out).symm, rfl⟩
set_option maxHeartbeats 400000 in
theorem has_any (B : Nat) (f : Nat → Nat) (x y : Int) (w : World) (hf : ∀ k, f k < 65536) (hB : Blk w B 65 f) :
    Calls Try.prog 131 #[.pointer (some ⟨B, 0, none⟩), .int .i64 x, .int .i64 y] w fun e w' => e = .returned (.bool (hasF f x y)) ∧ w = w' := by
  cases hp : plB x y with
  | false =>
    go_enter Try.func131, Try.ntmps131
    go_wp2_with (go_at_call 132; refine (place_any _ _ _).mono ?_; rintro e w' ⟨rfl, rfl⟩)
    go_ret
    exact ⟨ret_bool (by simp [hasF, hp]), rfl⟩
  | true =>
    have h1 := plB_iff.1 hp
    obtain ⟨x, rfl⟩ := Int.eq_ofNat_of_zero_le h1.1
    obtain ⟨y, rfl⟩ := Int.eq_ofNat_of_zero_le h1.2.2.1
    have hx : x < 12 := by omega
    have hy : y < 12 := by omega
    have hfy := hf y
    clear h1 hf
    have c1 := hB.cell hy
    go_enter Try.func131, Try.ntmps131
    go_wp2_with (go_at_call 132; refine (place_any _ _ _).mono ?_; rintro e w' ⟨rfl, rfl⟩)
    go_ret
    refine ⟨ret_bool ?_, rfl⟩
    go_light
    rw [tmod_bit]
    simp [hasF, hp]
set_option maxHeartbeats 400000 in
theorem put_any (B : Nat) (f : Nat → Nat) (x y : Int) (w : World) (hf : ∀ k, f k < 65536) (hB : Blk w B 65 f) :
    Calls Try.prog 113 #[.pointer (some ⟨B, 0, none⟩), .int .i64 x, .int .i64 y] w fun e w' => e = .returned (.tuple #[]) ∧ Wrote B w w' ∧ Blk w' B 65 (putF f x y) := by
  cases hp : plB x y with
  | false =>
    go_enter Try.func113, Try.ntmps113
    go_wp2_with (go_at_call 132; refine (place_any _ _ _).mono ?_; rintro e w' ⟨rfl, rfl⟩)
    go_end0
    exact ⟨rfl, Wrote.refl _ _, by simp only [putF, hp]; exact hB⟩
  | true =>
    have h1 := plB_iff.1 hp
    obtain ⟨x, rfl⟩ := Int.eq_ofNat_of_zero_le h1.1
    obtain ⟨y, rfl⟩ := Int.eq_ofNat_of_zero_le h1.2.2.1
    have hx : x < 12 := by omega
    have hy : y < 12 := by omega
    have hfy := hf y
    clear h1 hf
    have c1 := hB.cell hy
    have c2 := hB.free y
    go_enter Try.func113, Try.ntmps113
    go_wp2_with (go_at_call 132; refine (place_any _ _ _).mono ?_; rintro e w' ⟨rfl, rfl⟩)
    go_region
    all_goals go_end0
    rw [u16_or_pow hfy (by omega)]
    refine ⟨rfl, ((Wrote.refl B w).setCell (p := ⟨B, y, none⟩) rfl _).drew, ?_⟩
    simp only [putF, hp, if_true, Int.toNat_natCast]
    exact hB.set hy _
end Go.Proofs.Ytjbjbdkmomkclab
