/- NUMBERS BETWEEN TWO. spec: l00Max, l03Size, l03Between, BetweenOf; impl: sizeOf, numberBetween, BetweenOf. -/
import Derived.Test.YtkcomhbmhgnhhaaDoorEase
import Derived.Test.YtkcomhbmhgnhhaaDoorIWithin
namespace Go.Proofs.YtkcomhbmhgnhhaaDoor
set_option maxRecDepth 100000
open Go.RowKit
set_option linter.unusedVariables false
set_option linter.unusedSimpArgs false
theorem specMax_any (a b : Int) (w : World) : Calls Tryd.prog 90 #[.int .i64 a, .int .i64 b] w fun e w' => e = .returned (.int .i64 (max a b)) ∧ w = w' := by
  by_cases h : b < a
  · go_enter Tryd.func90, Tryd.ntmps90
    go_wp2
    go_ret
    exact ⟨ret_int (by omega), rfl⟩
  · go_enter Tryd.func90, Tryd.ntmps90
    go_wp2
    go_ret
    exact ⟨ret_int (by omega), rfl⟩
theorem specSize_any (n : Int) (w : World) (hn : -100000 ≤ n ∧ n ≤ 100000) : Calls Tryd.prog 80 #[.int .i64 n] w fun e w' => e = .returned (.int .i64 (szI n)) ∧ w = w' := by
  have hn1 := hn.1
  have hn2 := hn.2
  have k : IntKind.i64.wrap (-n) = -n := IntWalk.i64_in _ (by omega)
  clear hn
  go_enter Tryd.func80, Tryd.ntmps80
  go_wp2_with (go_at_call 90; refine (specMax_any _ _ _).mono ?_; rintro e w' ⟨rfl, rfl⟩)
  go_ret
  exact ⟨rfl, rfl⟩
theorem sizeOf_any (n : Int) (w : World) (hn : -100000 ≤ n ∧ n ≤ 100000) : Calls Tryd.prog 93 #[.int .i64 n] w fun e w' => e = .returned (.int .i64 (szI n)) ∧ w = w' := by
  have hn1 := hn.1
  have hn2 := hn.2
  have k : IntKind.i64.wrap (-n) = -n := IntWalk.i64_in _ (by omega)
  clear hn
  go_enter Tryd.func93, Tryd.ntmps93
  go_wp2
  all_goals (go_ret; exact ⟨ret_int (by unfold szI; omega), rfl⟩)
/-- The way as a number of its own. -/
theorem way {a b s : Int} (ha : -1000 ≤ a ∧ a ≤ 1000) (hb : -1000 ≤ b ∧ b ≤ 1000) (hs : 0 ≤ s ∧ s ≤ 1000) :
    ∃ z p q : Int, szI (b - a) = z ∧ IntKind.i64.wrap (z * s) = p ∧ 0 ≤ p ∧ p ≤ 2000000 ∧ q = (p + 500) / 1000 ∧ 0 ≤ q ∧ q ≤ 2001 ∧ betI a b s = if b < a then a - q else a + q := by
  have h0 := szI_nonneg (b - a)
  have h1 : szI (b - a) ≤ 2000 := szI_le (by omega) (by omega)
  have h2 := mul_bounds (a := szI (b - a)) (b := s) (m := 2000) (n := 1000) ⟨h0, h1⟩ hs
  refine ⟨_, _, _, rfl, IntWalk.i64_in _ (by omega), h2.1, by omega, rfl, by omega, by omega, rfl⟩
set_option maxHeartbeats 1000000 in
theorem specBetween_any (a b s : Int) (w : World) (ha : -1000 ≤ a ∧ a ≤ 1000) (hb : -1000 ≤ b ∧ b ≤ 1000) (hs : 0 ≤ s ∧ s ≤ 1000) :
    Calls Tryd.prog 71 #[.int .i64 a, .int .i64 b, .int .i64 s] w fun r w' => r = .returned (.int .i64 (betI a b s)) ∧ w = w' := by
  obtain ⟨z, p, q, hz, k1, hp0, hp1, hq, hq0, hq1, hv⟩ := way ha hb hs
  have cZ := fun w => specSize_any (b - a) w ⟨by omega, by omega⟩
  have ha1 := ha.1
  have ha2 := ha.2
  have hb1 := hb.1
  have hb2 := hb.2
  have kd : IntKind.i64.wrap (b - a) = b - a := IntWalk.i64_in _ (by omega)
  rw [hz] at cZ
  rw [hv]
  by_cases h : b < a
  · rw [if_pos h]
    clear hz hv ha hb hs
    go_enter Tryd.func71, Tryd.ntmps71
    go_wp2_with (go_at_call 80; refine (cZ _).mono ?_; rintro e w' ⟨rfl, rfl⟩)
    go_ret
    exact ⟨ret_int (by omega), rfl⟩
  · rw [if_neg h]
    clear hz hv ha hb hs
    go_enter Tryd.func71, Tryd.ntmps71
    go_wp2_with (go_at_call 80; refine (cZ _).mono ?_; rintro e w' ⟨rfl, rfl⟩)
    go_ret
    exact ⟨ret_int (by omega), rfl⟩
set_option maxHeartbeats 1000000 in
theorem numberBetween_any (a b s : Int) (w : World) (ha : -1000 ≤ a ∧ a ≤ 1000) (hb : -1000 ≤ b ∧ b ≤ 1000) (hs : 0 ≤ s ∧ s ≤ 1000) :
    Calls Tryd.prog 89 #[.int .i64 a, .int .i64 b, .int .i64 s] w fun r w' => r = .returned (.int .i64 (betI a b s)) ∧ w = w' := by
  obtain ⟨z, p, q, hz, k1, hp0, hp1, hq, hq0, hq1, hv⟩ := way ha hb hs
  have cZ := fun w => sizeOf_any (b - a) w ⟨by omega, by omega⟩
  have ha1 := ha.1
  have ha2 := ha.2
  have hb1 := hb.1
  have hb2 := hb.2
  have kd : IntKind.i64.wrap (b - a) = b - a := IntWalk.i64_in _ (by omega)
  rw [hz] at cZ
  rw [hv]
  by_cases h : b < a
  · rw [if_pos h]
    clear hz hv ha hb hs
    go_enter Tryd.func89, Tryd.ntmps89
    go_wp2_with (go_at_call 93; refine (cZ _).mono ?_; rintro e w' ⟨rfl, rfl⟩)
    go_ret
    exact ⟨ret_int (by omega), rfl⟩
  · rw [if_neg h]
    clear hz hv ha hb hs
    go_enter Tryd.func89, Tryd.ntmps89
    go_wp2_with (go_at_call 93; refine (cZ _).mono ?_; rintro e w' ⟨rfl, rfl⟩)
    go_ret
    exact ⟨ret_int (by omega), rfl⟩
end Go.Proofs.YtkcomhbmhgnhhaaDoor
