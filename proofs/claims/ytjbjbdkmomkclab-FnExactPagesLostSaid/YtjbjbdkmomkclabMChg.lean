/- The laws' markChangeS and heldChangeS. -/
import Derived.Test.YtjbjbdkmomkclabLChg
namespace Go.Proofs.Ytjbjbdkmomkclab
set_option maxRecDepth 100000
open Go.RowKit
set_option linter.unusedVariables false
def cgMk (k : Int) (q : Nat) : Value := if q % 2 = 0 then .int .i8 (IntKind.i8.wrap (k + q)) else .int .u16 (IntKind.u16.wrap (k + q))
theorem cgMk0 (k : Int) (p : Nat) : cgMk k (p * 2) = .int .i8 (IntKind.i8.wrap (k + ((p * 2 : Nat) : Int))) := by unfold cgMk; rw [if_pos (by omega)]
theorem cgMk1 (k : Int) (p : Nat) : cgMk k (p * 2 + 1) = .int .u16 (IntKind.u16.wrap (k + ((p * 2 : Nat) : Int) + 1)) := by unfold cgMk; rw [if_neg (by omega), show k + ((p * 2 + 1 : Nat) : Int) = k + ((p * 2 : Nat) : Int) + 1 by omega]
set_option maxHeartbeats 1000000 in
theorem markChangeS_any (g n c : Nat) (k : Int) (w : World) (N : Nat) (hk : 0 ≤ k) (hk2 : k ≤ 1000000000) (hn : n ≤ 1000000) (hr : RowN w g 127 N) (hN : n * 2 ≤ N) :
    Calls Try.prog 62 #[.slice (some ⟨g, 0, none⟩) n c, .int .i64 k] w fun e w' => e = .returned (.int .i64 (k + ((n * 2 : Nat) : Int))) ∧ Marks w w' g 127 N (cgMk k) (n * 2) := by
  have hm := Marks.start hr (cgMk k)
  clear hr
  go_enter Try.func62, Try.ntmps62
  go_wp2
  go_loopw [1, 5] (fun kk i wr => ∃ p : Nat, p ≤ n ∧ i = .int .i64 p ∧ kk = .int .i64 (k + ((p * 2 : Nat) : Int)) ∧ Marks w wr g 127 N (cgMk k) (p * 2)) (fun _ i _ => n - (intOf i).toNat)
  case atStart => exact ⟨0, by omega, rfl, by simp, by simpa using hm⟩
  case round =>
    clear hm
    obtain ⟨p, hp, rfl, rfl, hm⟩ := hrel
    by_cases hlt : p < n
    · obtain ⟨u0, c0⟩ := hm.row.cell (q := p * 2) (by omega)
      have f0 := hm.row.free (p * 2)
      have hm1 := hm.step (v := .int .i8 (IntKind.i8.wrap (k + ((p * 2 : Nat) : Int)))) (by omega) (cgMk0 k p).symm
      obtain ⟨u1, c1⟩ := hm1.row.cell (q := p * 2 + 1) (by omega)
      have f1 := hm1.row.free (p * 2 + 1)
      have k1 : IntKind.i64.wrap (k + ((p * 2 : Nat) : Int) + 1) = k + ((p * 2 : Nat) : Int) + 1 := IntWalk.i64_in _ (by omega)
      have k2 : IntKind.i64.wrap (k + ((p * 2 : Nat) : Int) + 1 + 1) = k + ((p * 2 : Nat) : Int) + 1 + 1 := IntWalk.i64_in _ (by omega)
      have hm2 := hm1.step (v := .int .u16 (IntKind.u16.wrap (k + ((p * 2 : Nat) : Int) + 1))) (by omega) (cgMk1 k p).symm
      have hz : k + ((p * 2 : Nat) : Int) + 1 + 1 = k + (((p + 1) * 2 : Nat) : Int) := by omega
      have HZ := Lib.hid hz
      clear hm hm1 hz
      generalize hkk : k + ((p * 2 : Nat) : Int) = kk at *
      clear hkk
      go_wp2
      go_roundw
      case rel =>
        go_light
        refine ⟨p + 1, by omega, by go_num, by first | rw [HZ.out] | rw [k2, HZ.out], ?_⟩
        rw [show (p + 1) * 2 = p * 2 + 1 + 1 by omega]
        exact hm2
      case measure => simp [intOf]; omega
    · have hpn : p = n := by omega
      subst hpn
      go_wp2
      go_ret
      exact ⟨rfl, hm⟩
theorem markChangeS_nil (A : Option Addr) (c : Nat) (k : Int) (w : World) :
    Calls Try.prog 62 #[.slice A 0 c, .int .i64 k] w fun e w' => e = .returned (.int .i64 k) ∧ w = w' := by
  go_enter Try.func62, Try.ntmps62
  go_wp2
  go_loop [1, 5] (fun kk i => kk = .int .i64 k ∧ i = .int .i64 0) (fun _ _ => 0)
  case atStart => exact ⟨rfl, rfl⟩
  case round =>
    obtain ⟨rfl, rfl⟩ := hrel
    go_wp2
    go_ret
    exact ⟨rfl, rfl⟩
theorem markChangeS_own (v : Value) (M : List (Int × Int)) (base : Nat) (k : Int) (w : World) (hk : 0 ≤ k) (hk2 : k ≤ 1000) (hn : M.length ≤ 1000000) (h : OwnL eCg w base 127 v M) :
    Calls Try.prog 62 #[v, .int .i64 k] w fun e w' => e = .returned (.int .i64 (k + ((M.length * 2 : Nat) : Int))) ∧ w.grownBy w' v.ownBlock ∧ MarkedV w' v (cgMk k) M.length (M.length * 2) := by
  rcases h.form with ⟨rfl, rfl⟩ | ⟨g, cap, R, rfl, hb, hg, h1, h2, hr⟩
  · refine (markChangeS_nil none 0 k w).mono ?_
    rintro e w' ⟨rfl, rfl⟩
    exact ⟨by simp, World.grownBy.refl w _, none, 0, rfl, .inl rfl⟩
  · refine (markChangeS_any g M.length cap k w _ hk (by omega) hn ⟨_, rfl, hr⟩ (by simp [Enc.cells_length, eCg_n])).mono ?_
    rintro e w' ⟨rfl, hm⟩
    exact ⟨rfl, hm.grown, some ⟨g, 0, none⟩, cap, rfl, .inr ⟨g, rfl, hm.row.lt, hm.cells⟩⟩
end Go.Proofs.Ytjbjbdkmomkclab
