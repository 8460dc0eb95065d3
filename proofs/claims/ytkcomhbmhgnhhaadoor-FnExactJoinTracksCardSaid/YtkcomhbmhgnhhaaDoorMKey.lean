/- The laws' markTrack and heldTrack. -/
import Derived.Test.YtkcomhbmhgnhhaaDoorLKey
namespace Go.Proofs.YtkcomhbmhgnhhaaDoor
set_option maxRecDepth 100000
open Go.RowKit
set_option linter.unusedVariables false
def kyAt (k : Int) (q : Nat) : Value := if q % 3 = 0 then .int .i16 (IntKind.i16.wrap (k + q)) else .int .i8 (IntKind.i8.wrap (k + q))
theorem kyAt0 (k : Int) (p : Nat) : kyAt k (p * 3) = .int .i16 (IntKind.i16.wrap (k + ((p * 3 : Nat) : Int))) := by unfold kyAt; rw [if_pos (by omega)]
theorem kyAt1 (k : Int) (p : Nat) : kyAt k (p * 3 + 1) = .int .i8 (IntKind.i8.wrap (k + ((p * 3 : Nat) : Int) + 1)) := by unfold kyAt; rw [if_neg (by omega), show k + ((p * 3 + 1 : Nat) : Int) = k + ((p * 3 : Nat) : Int) + 1 by omega]
theorem kyAt2 (k : Int) (p : Nat) : kyAt k (p * 3 + 2) = .int .i8 (IntKind.i8.wrap (k + ((p * 3 : Nat) : Int) + 1 + 1)) := by unfold kyAt; rw [if_neg (by omega), show k + ((p * 3 + 2 : Nat) : Int) = k + ((p * 3 : Nat) : Int) + 1 + 1 by omega]
set_option maxHeartbeats 1000000 in
theorem markTrack_any (g n c : Nat) (k : Int) (w : World) (N : Nat) (hk : 0 ≤ k) (hk2 : k ≤ 1000000000) (hn : n ≤ 1000000) (hr : RowN w g 50 N) (hN : n * 3 ≤ N) :
    Calls Tryd.prog 12 #[.slice (some ⟨g, 0, none⟩) n c, .int .i64 k] w fun e w' => e = .returned (.int .i64 (k + ((n * 3 : Nat) : Int))) ∧ Marks w w' g 50 N (kyAt k) (n * 3) := by
  have hm := Marks.start hr (kyAt k)
  clear hr
  go_enter Tryd.func12, Tryd.ntmps12
  go_wp2
  go_loopw [1, 5] (fun kk i wr => ∃ p : Nat, p ≤ n ∧ i = .int .i64 p ∧ kk = .int .i64 (k + ((p * 3 : Nat) : Int)) ∧ Marks w wr g 50 N (kyAt k) (p * 3)) (fun _ i _ => n - (intOf i).toNat)
  case atStart => exact ⟨0, by omega, rfl, by simp, by simpa using hm⟩
  case round =>
    clear hm
    obtain ⟨p, hp, rfl, rfl, hm⟩ := hrel
    by_cases hlt : p < n
    · obtain ⟨u0, c0⟩ := hm.row.cell (q := p * 3) (by omega)
      have f0 := hm.row.free (p * 3)
      have hm1 := hm.step (v := .int .i16 (IntKind.i16.wrap (k + ((p * 3 : Nat) : Int)))) (by omega) (kyAt0 k p).symm
      obtain ⟨u1, c1⟩ := hm1.row.cell (q := p * 3 + 1) (by omega)
      have f1 := hm1.row.free (p * 3 + 1)
      have k1 : IntKind.i64.wrap (k + ((p * 3 : Nat) : Int) + 1) = k + ((p * 3 : Nat) : Int) + 1 := IntWalk.i64_in _ (by omega)
      have k2 : IntKind.i64.wrap (k + ((p * 3 : Nat) : Int) + 1 + 1) = k + ((p * 3 : Nat) : Int) + 1 + 1 := IntWalk.i64_in _ (by omega)
      have k3 : IntKind.i64.wrap (k + ((p * 3 : Nat) : Int) + 1 + 1 + 1) = k + ((p * 3 : Nat) : Int) + 1 + 1 + 1 := IntWalk.i64_in _ (by omega)
      have hm2 := hm1.step (v := .int .i8 (IntKind.i8.wrap (k + ((p * 3 : Nat) : Int) + 1))) (by omega) (kyAt1 k p).symm
      obtain ⟨u2, c2⟩ := hm2.row.cell (q := p * 3 + 1 + 1) (by omega)
      have f2 := hm2.row.free (p * 3 + 1 + 1)
      have hm3 := hm2.step (v := .int .i8 (IntKind.i8.wrap (k + ((p * 3 : Nat) : Int) + 1 + 1))) (by omega) (kyAt2 k p).symm
      have hz : k + ((p * 3 : Nat) : Int) + 1 + 1 + 1 = k + (((p + 1) * 3 : Nat) : Int) := by omega
      have HZ := Lib.hid hz
      clear hm hm1 hm2 hz
      generalize hkk : k + ((p * 3 : Nat) : Int) = kk at *
      clear hkk
      go_wp2
      go_roundw
      case rel =>
        go_light
        refine ⟨p + 1, by omega, by go_num, by first | rw [HZ.out] | rw [k3, HZ.out], ?_⟩
        rw [show (p + 1) * 3 = p * 3 + 1 + 1 + 1 by omega]
        exact hm3
      case measure => simp [intOf]; omega
    · have hpn : p = n := by omega
      subst hpn
      go_wp2
      go_ret
      exact ⟨rfl, hm⟩
set_option maxHeartbeats 1000000 in
theorem heldTrack_any (g n c : Nat) (k : Int) (w : World) (hk : 0 ≤ k) (hk2 : k ≤ 1000000000) (hn : n ≤ 1000000) (hm : Marked w g (kyAt k) (n * 3)) :
    Calls Tryd.prog 13 #[.slice (some ⟨g, 0, none⟩) n c, .int .i64 k] w fun e w' => e = .returned (.int .i64 (k + ((n * 3 : Nat) : Int))) ∧ w = w' := by
  go_enter Tryd.func13, Tryd.ntmps13
  go_wp2
  go_loop [1, 5] (fun kk i => ∃ p : Nat, p ≤ n ∧ i = .int .i64 p ∧ kk = .int .i64 (k + ((p * 3 : Nat) : Int))) (fun _ i => n - (intOf i).toNat)
  case atStart => exact ⟨0, by omega, rfl, by simp⟩
  case round =>
    obtain ⟨p, hp, rfl, rfl⟩ := hrel
    by_cases hlt : p < n
    · have c0 := hm (p * 3) (by omega)
      have c1 := hm (p * 3 + 1) (by omega)
      have c2 := hm (p * 3 + 2) (by omega)
      rw [kyAt0] at c0
      rw [kyAt1] at c1
      rw [kyAt2] at c2
      have k1 : IntKind.i64.wrap (k + ((p * 3 : Nat) : Int) + 1) = k + ((p * 3 : Nat) : Int) + 1 := IntWalk.i64_in _ (by omega)
      have k2 : IntKind.i64.wrap (k + ((p * 3 : Nat) : Int) + 1 + 1) = k + ((p * 3 : Nat) : Int) + 1 + 1 := IntWalk.i64_in _ (by omega)
      have k3 : IntKind.i64.wrap (k + ((p * 3 : Nat) : Int) + 1 + 1 + 1) = k + ((p * 3 : Nat) : Int) + 1 + 1 + 1 := IntWalk.i64_in _ (by omega)
      have hz : k + ((p * 3 : Nat) : Int) + 1 + 1 + 1 = k + (((p + 1) * 3 : Nat) : Int) := by omega
      have HZ := Lib.hid hz
      clear hz
      generalize hkk : k + ((p * 3 : Nat) : Int) = kk at *
      clear hkk
      have e0 : (IntKind.i16.wrap kk != IntKind.i16.wrap kk) = false := by simp
      have e1 : (IntKind.i8.wrap (kk + 1) != IntKind.i8.wrap (kk + 1)) = false := by simp
      have e2 : (IntKind.i8.wrap (kk + 1 + 1) != IntKind.i8.wrap (kk + 1 + 1)) = false := by simp
      go_wp2
      go_round
      case rel =>
        go_light
        exact ⟨p + 1, by omega, by go_num, by first | rw [HZ.out] | rw [k3, HZ.out]⟩
      case measure => simp [intOf]; omega
    · have hpn : p = n := by omega
      subst hpn
      go_wp2
      go_ret
      exact ⟨rfl, rfl⟩
theorem markTrack_nil (A : Option Addr) (c : Nat) (k : Int) (w : World) :
    Calls Tryd.prog 12 #[.slice A 0 c, .int .i64 k] w fun e w' => e = .returned (.int .i64 k) ∧ w = w' := by
  go_enter Tryd.func12, Tryd.ntmps12
  go_wp2
  go_loop [1, 5] (fun kk i => kk = .int .i64 k ∧ i = .int .i64 0) (fun _ _ => 0)
  case atStart => exact ⟨rfl, rfl⟩
  case round =>
    obtain ⟨rfl, rfl⟩ := hrel
    go_wp2
    go_ret
    exact ⟨rfl, rfl⟩
theorem heldTrack_nil (A : Option Addr) (c : Nat) (k : Int) (w : World) :
    Calls Tryd.prog 13 #[.slice A 0 c, .int .i64 k] w fun e w' => e = .returned (.int .i64 k) ∧ w = w' := by
  go_enter Tryd.func13, Tryd.ntmps13
  go_wp2
  go_loop [1, 5] (fun kk i => kk = .int .i64 k ∧ i = .int .i64 0) (fun _ _ => 0)
  case atStart => exact ⟨rfl, rfl⟩
  case round =>
    obtain ⟨rfl, rfl⟩ := hrel
    go_wp2
    go_ret
    exact ⟨rfl, rfl⟩
theorem markTrack_own (v : Value) (M : List (Int × Int × Int)) (base : Nat) (k : Int) (w : World) (hk : 0 ≤ k) (hk2 : k ≤ 1000) (hn : M.length ≤ 1000000) (h : OwnL eKy w base 50 v M) :
    Calls Tryd.prog 12 #[v, .int .i64 k] w fun e w' => e = .returned (.int .i64 (k + ((M.length * 3 : Nat) : Int))) ∧ w.grownBy w' v.ownBlock ∧ MarkedV w' v (kyAt k) M.length (M.length * 3) := by
  rcases h.form with ⟨rfl, rfl⟩ | ⟨g, cap, R, rfl, hb, hg, h1, h2, hr⟩
  · refine (markTrack_nil none 0 k w).mono ?_
    rintro e w' ⟨rfl, rfl⟩
    exact ⟨by simp, World.grownBy.refl w _, none, 0, rfl, .inl rfl⟩
  · refine (markTrack_any g M.length cap k w _ hk (by omega) hn ⟨_, rfl, hr⟩ (by simp [Enc.cells_length, eKy_n])).mono ?_
    rintro e w' ⟨rfl, hm⟩
    exact ⟨rfl, hm.grown, some ⟨g, 0, none⟩, cap, rfl, .inr ⟨g, rfl, hm.row.lt, hm.cells⟩⟩
theorem heldTrack_own (v : Value) (n : Nat) (k : Int) (w : World) (hk : 0 ≤ k) (hk2 : k ≤ 1000) (hn : n ≤ 1000000) (h : MarkedV w v (kyAt k) n (n * 3)) :
    Calls Tryd.prog 13 #[v, .int .i64 k] w fun e w' => e = .returned (.int .i64 (k + ((n * 3 : Nat) : Int))) ∧ w = w' := by
  obtain ⟨A, c, rfl, rfl | ⟨g, rfl, _, hm⟩⟩ := h
  · refine (heldTrack_nil A c k w).mono ?_
    rintro e w' ⟨rfl, rfl⟩
    exact ⟨by simp, rfl⟩
  · exact heldTrack_any g n c k w hk (by omega) hn hm
end Go.Proofs.YtkcomhbmhgnhhaaDoor
