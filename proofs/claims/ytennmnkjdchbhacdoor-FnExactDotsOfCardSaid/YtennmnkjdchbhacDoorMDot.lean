/- The laws' markDotS and heldDotS. -/
import Derived.Test.YtennmnkjdchbhacDoorLDot
namespace Go.Proofs.YtennmnkjdchbhacDoor
set_option maxRecDepth 100000
open Go.RowKit
set_option linter.unusedVariables false
def i8At (k : Int) (q : Nat) : Value := .int .i8 (IntKind.i8.wrap (k + q))
set_option maxHeartbeats 1000000 in
theorem markDotS_any (g n c : Nat) (k : Int) (w : World) (N : Nat) (hk : 0 ≤ k) (hk2 : k ≤ 1000000000) (hn : n ≤ 1000000) (hr : RowN w g 65 N) (hN : n * 2 ≤ N) :
    Calls Tryd.prog 17 #[.slice (some ⟨g, 0, none⟩) n c, .int .i64 k] w fun e w' => e = .returned (.int .i64 (k + ((n * 2 : Nat) : Int))) ∧ Marks w w' g 65 N (i8At k) (n * 2) := by
  have hm := Marks.start hr (i8At k)
  clear hr
  go_enter Tryd.func17, Tryd.ntmps17
  go_wp2
  go_loopw [1, 5] (fun kk i wr => ∃ p : Nat, p ≤ n ∧ i = .int .i64 p ∧ kk = .int .i64 (k + ((p * 2 : Nat) : Int)) ∧ Marks w wr g 65 N (i8At k) (p * 2)) (fun _ i _ => n - (intOf i).toNat)
  case atStart => exact ⟨0, by omega, rfl, by simp, by simpa using hm⟩
  case round =>
    clear hm
    obtain ⟨p, hp, rfl, rfl, hm⟩ := hrel
    by_cases hlt : p < n
    · obtain ⟨u0, c0⟩ := hm.row.cell (q := p * 2) (by omega)
      have f0 := hm.row.free (p * 2)
      have hm1 := hm.step (v := .int .i8 (IntKind.i8.wrap (k + ((p * 2 : Nat) : Int)))) (by omega) rfl
      obtain ⟨u1, c1⟩ := hm1.row.cell (q := p * 2 + 1) (by omega)
      have f1 := hm1.row.free (p * 2 + 1)
      have k1 : IntKind.i64.wrap (k + ((p * 2 : Nat) : Int) + 1) = k + ((p * 2 : Nat) : Int) + 1 := IntWalk.i64_in _ (by omega)
      have k2 : IntKind.i64.wrap (k + ((p * 2 : Nat) : Int) + 1 + 1) = k + ((p * 2 : Nat) : Int) + 1 + 1 := IntWalk.i64_in _ (by omega)
      have hm2 := hm1.step (v := .int .i8 (IntKind.i8.wrap (k + ((p * 2 : Nat) : Int) + 1))) (by omega) (by unfold i8At; rw [show k + ((p * 2 + 1 : Nat) : Int) = k + ((p * 2 : Nat) : Int) + 1 by omega])
      have hz : k + ((p * 2 : Nat) : Int) + 1 + 1 = k + (((p + 1) * 2 : Nat) : Int) := by omega
      have HZ := Lib.hid hz
      clear hm hm1 hz
      generalize hkk : k + ((p * 2 : Nat) : Int) = kk at *
      clear hkk
      go_wp2
      go_roundw
      case rel =>
        go_light
        refine ⟨p + 1, by omega, by go_num, by first | rw [HZ.out] | rw [k2, HZ.out], ?_⟩
        rw [show (p + 1) * 2 = p * 2 + 1 + 1 by omega]
        exact hm2
      case measure => simp [intOf]; omega
    · have hpn : p = n := by omega
      subst hpn
      go_wp2
      go_ret
      exact ⟨rfl, hm⟩
set_option maxHeartbeats 1000000 in
theorem heldDotS_any (g n c : Nat) (k : Int) (w : World) (hk : 0 ≤ k) (hk2 : k ≤ 1000000000) (hn : n ≤ 1000000) (hm : Marked w g (i8At k) (n * 2)) :
    Calls Tryd.prog 18 #[.slice (some ⟨g, 0, none⟩) n c, .int .i64 k] w fun e w' => e = .returned (.int .i64 (k + ((n * 2 : Nat) : Int))) ∧ w = w' := by
  go_enter Tryd.func18, Tryd.ntmps18
  go_wp2
  go_loop [1, 5] (fun kk i => ∃ p : Nat, p ≤ n ∧ i = .int .i64 p ∧ kk = .int .i64 (k + ((p * 2 : Nat) : Int))) (fun _ i => n - (intOf i).toNat)
  case atStart => exact ⟨0, by omega, rfl, by simp⟩
  case round =>
    obtain ⟨p, hp, rfl, rfl⟩ := hrel
    by_cases hlt : p < n
    · have c0 := hm (p * 2) (by omega)
      have c1 := hm (p * 2 + 1) (by omega)
      unfold i8At at c0 c1
      rw [show k + ((p * 2 + 1 : Nat) : Int) = k + ((p * 2 : Nat) : Int) + 1 by omega] at c1
      have k1 : IntKind.i64.wrap (k + ((p * 2 : Nat) : Int) + 1) = k + ((p * 2 : Nat) : Int) + 1 := IntWalk.i64_in _ (by omega)
      have k2 : IntKind.i64.wrap (k + ((p * 2 : Nat) : Int) + 1 + 1) = k + ((p * 2 : Nat) : Int) + 1 + 1 := IntWalk.i64_in _ (by omega)
      have hz : k + ((p * 2 : Nat) : Int) + 1 + 1 = k + (((p + 1) * 2 : Nat) : Int) := by omega
      have HZ := Lib.hid hz
      clear hz
      generalize hkk : k + ((p * 2 : Nat) : Int) = kk at *
      clear hkk
      have e0 : (IntKind.i8.wrap kk != IntKind.i8.wrap kk) = false := by simp
      have e1 : (IntKind.i8.wrap (kk + 1) != IntKind.i8.wrap (kk + 1)) = false := by simp
      go_wp2
      go_round
      case rel =>
        go_light
        exact ⟨p + 1, by omega, by go_num, by first | rw [HZ.out] | rw [k2, HZ.out]⟩
      case measure => simp [intOf]; omega
    · have hpn : p = n := by omega
      subst hpn
      go_wp2
      go_ret
      exact ⟨rfl, rfl⟩
theorem markDotS_nil (A : Option Addr) (c : Nat) (k : Int) (w : World) :
    Calls Tryd.prog 17 #[.slice A 0 c, .int .i64 k] w fun e w' => e = .returned (.int .i64 k) ∧ w = w' := by
  go_enter Tryd.func17, Tryd.ntmps17
  go_wp2
  go_loop [1, 5] (fun kk i => kk = .int .i64 k ∧ i = .int .i64 0) (fun _ _ => 0)
  case atStart => exact ⟨rfl, rfl⟩
  case round =>
    obtain ⟨rfl, rfl⟩ := hrel
    go_wp2
    go_ret
    exact ⟨rfl, rfl⟩
theorem heldDotS_nil (A : Option Addr) (c : Nat) (k : Int) (w : World) :
    Calls Tryd.prog 18 #[.slice A 0 c, .int .i64 k] w fun e w' => e = .returned (.int .i64 k) ∧ w = w' := by
  go_enter Tryd.func18, Tryd.ntmps18
  go_wp2
  go_loop [1, 5] (fun kk i => kk = .int .i64 k ∧ i = .int .i64 0) (fun _ _ => 0)
  case atStart => exact ⟨rfl, rfl⟩
  case round =>
    obtain ⟨rfl, rfl⟩ := hrel
    go_wp2
    go_ret
    exact ⟨rfl, rfl⟩
theorem markDotS_own (v : Value) (M : List (Int × Int)) (base : Nat) (k : Int) (w : World) (hk : 0 ≤ k) (hk2 : k ≤ 1000) (hn : M.length ≤ 1000000) (h : OwnL eSh w base 65 v M) :
    Calls Tryd.prog 17 #[v, .int .i64 k] w fun e w' => e = .returned (.int .i64 (k + ((M.length * 2 : Nat) : Int))) ∧ w.grownBy w' v.ownBlock ∧ MarkedV w' v (i8At k) M.length (M.length * 2) := by
  rcases h.form with ⟨rfl, rfl⟩ | ⟨g, cap, R, rfl, hb, hg, h1, h2, hr⟩
  · refine (markDotS_nil none 0 k w).mono ?_
    rintro e w' ⟨rfl, rfl⟩
    exact ⟨by simp, World.grownBy.refl w _, none, 0, rfl, .inl rfl⟩
  · refine (markDotS_any g M.length cap k w _ hk (by omega) hn ⟨_, rfl, hr⟩ (by simp [Enc.cells_length, eSh_n])).mono ?_
    rintro e w' ⟨rfl, hm⟩
    exact ⟨rfl, hm.grown, some ⟨g, 0, none⟩, cap, rfl, .inr ⟨g, rfl, hm.row.lt, hm.cells⟩⟩
theorem heldDotS_own (v : Value) (n : Nat) (k : Int) (w : World) (hk : 0 ≤ k) (hk2 : k ≤ 1000) (hn : n ≤ 1000000) (h : MarkedV w v (i8At k) n (n * 2)) :
    Calls Tryd.prog 18 #[v, .int .i64 k] w fun e w' => e = .returned (.int .i64 (k + ((n * 2 : Nat) : Int))) ∧ w = w' := by
  obtain ⟨A, c, rfl, rfl | ⟨g, rfl, _, hm⟩⟩ := h
  · refine (heldDotS_nil A c k w).mono ?_
    rintro e w' ⟨rfl, rfl⟩
    exact ⟨by simp, rfl⟩
  · exact heldDotS_any g n c k w hk (by omega) hn hm
end Go.Proofs.YtennmnkjdchbhacDoor
