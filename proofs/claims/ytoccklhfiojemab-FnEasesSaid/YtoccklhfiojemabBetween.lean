/- NUMBERS BETWEEN TWO. spec: l00Max, l03Size, l03Between, BetweenOf; impl: sizeOf, numberBetween, BetweenOf. -/
import Derived.Test.YtoccklhfiojemabEase
import Derived.Test.YtoccklhfiojemabIWithin
namespace Go.Proofs.Ytoccklhfiojemab
set_option maxRecDepth 100000
open Go.RowKit
set_option linter.unusedVariables false
set_option linter.unusedSimpArgs false
theorem specMax_any (a b : Int) (w : World) : Calls Try.prog 54 #[.int .i64 a, .int .i64 b] w fun e w' => e = .returned (.int .i64 (max a b)) ∧ w = w' := by
  by_cases h : b < a
  · go_enter Try.func54, Try.ntmps54
    go_wp2
    go_ret
    exact ⟨ret_int (by omega), rfl⟩
  · go_enter Try.func54, Try.ntmps54
    go_wp2
    go_ret
    exact ⟨ret_int (by omega), rfl⟩
theorem specSize_any (n : Int) (w : World) (hn : -100000 ≤ n ∧ n ≤ 100000) : Calls Try.prog 50 #[.int .i64 n] w fun e w' => e = .returned (.int .i64 (szI n)) ∧ w = w' := by
  have hn1 := hn.1
  have hn2 := hn.2
  have k : IntKind.i64.wrap (-n) = -n := IntWalk.i64_in _ (by omega)
  clear hn
  go_enter Try.func50, Try.ntmps50
  go_wp2_with (go_at_call 54; refine (specMax_any _ _ _).mono ?_; rintro e w' ⟨rfl, rfl⟩)
  go_ret
  exact ⟨rfl, rfl⟩
theorem sizeOf_any (n : Int) (w : World) (hn : -100000 ≤ n ∧ n ≤ 100000) : Calls Try.prog 49 #[.int .i64 n] w fun e w' => e = .returned (.int .i64 (szI n)) ∧ w = w' := by
  have hn1 := hn.1
  have hn2 := hn.2
  have k : IntKind.i64.wrap (-n) = -n := IntWalk.i64_in _ (by omega)
  clear hn
  go_enter Try.func49, Try.ntmps49
  go_wp2
  all_goals (go_ret; exact ⟨ret_int (by unfold szI; omega), rfl⟩)
/-- The way as a number of its own. -/
theorem way {a b s : Int} (ha : -1000 ≤ a ∧ a ≤ 1000) (hb : -1000 ≤ b ∧ b ≤ 1000) (hs : 0 ≤ s ∧ s ≤ 1000) :
    ∃ z p q : Int, szI (b - a) = z ∧ IntKind.i64.wrap (z * s) = p ∧ 0 ≤ p ∧ p ≤ 2000000 ∧ q = (p + 500) / 1000 ∧ 0 ≤ q ∧ q ≤ 2001 ∧ betI a b s = if b < a then a - q else a + q := by
  have h0 := szI_nonneg (b - a)
  have h1 : szI (b - a) ≤ 2000 := szI_le (by omega) (by omega)
  have h2 := mul_bounds (a := szI (b - a)) (b := s) (m := 2000) (n := 1000) ⟨h0, h1⟩ hs
  refine ⟨_, _, _, rfl, IntWalk.i64_in _ (by omega), h2.1, by omega, rfl, by omega, by omega, rfl⟩
set_option maxHeartbeats 1000000 in
theorem specBetween_any (a b s : Int) (w : World) (ha : -1000 ≤ a ∧ a ≤ 1000) (hb : -1000 ≤ b ∧ b ≤ 1000) (hs : 0 ≤ s ∧ s ≤ 1000) :
    Calls Try.prog 34 #[.int .i64 a, .int .i64 b, .int .i64 s] w fun r w' => r = .returned (.int .i64 (betI a b s)) ∧ w = w' := by
  obtain ⟨z, p, q, hz, k1, hp0, hp1, hq, hq0, hq1, hv⟩ := way ha hb hs
  have cZ := fun w => specSize_any (b - a) w ⟨by omega, by omega⟩
  have ha1 := ha.1
  have ha2 := ha.2
  have hb1 := hb.1
  have hb2 := hb.2
  have kd : IntKind.i64.wrap (b - a) = b - a := IntWalk.i64_in _ (by omega)
  rw [hz] at cZ
  rw [hv]
  by_cases h : b < a
  · rw [if_pos h]
    clear hz hv ha hb hs
    go_enter Try.func34, Try.ntmps34
    go_wp2_with (go_at_call 50; refine (cZ _).mono ?_; rintro e w' ⟨rfl, rfl⟩)
    go_ret
    exact ⟨ret_int (by omega), rfl⟩
  · rw [if_neg h]
    clear hz hv ha hb hs
    go_enter Try.func34, Try.ntmps34
    go_wp2_with (go_at_call 50; refine (cZ _).mono ?_; rintro e w' ⟨rfl, rfl⟩)
    go_ret
    exact ⟨ret_int (by omega), rfl⟩
set_option maxHeartbeats 1000000 in
theorem numberBetween_any (a b s : Int) (w : World) (ha : -1000 ≤ a ∧ a ≤ 1000) (hb : -1000 ≤ b ∧ b ≤ 1000) (hs : 0 ≤ s ∧ s ≤ 1000) :
    Calls Try.prog 33 #[.int .i64 a, .int .i64 b, .int .i64 s] w fun r w' => r = .returned (.int .i64 (betI a b s)) ∧ w = w' := by
  obtain ⟨z, p, q, hz, k1, hp0, hp1, hq, hq0, hq1, hv⟩ := way ha hb hs
  have cZ := fun w => sizeOf_any (b - a) w ⟨by omega, by omega⟩
  have ha1 := ha.1
  have ha2 := ha.2
  have hb1 := hb.1
  have hb2 := hb.2
  have kd : IntKind.i64.wrap (b - a) = b - a := IntWalk.i64_in _ (by omega)
  rw [hz] at cZ
  rw [hv]
  by_cases h : b < a
  · rw [if_pos h]
    clear hz hv ha hb hs
    go_enter Try.func33, Try.ntmps33
    go_wp2_with (go_at_call 49; refine (cZ _).mono ?_; rintro e w' ⟨rfl, rfl⟩)
    go_ret
    exact ⟨ret_int (by omega), rfl⟩
  · rw [if_neg h]
    clear hz hv ha hb hs
    go_enter Try.func33, Try.ntmps33
    go_wp2_with (go_at_call 49; refine (cZ _).mono ?_; rintro e w' ⟨rfl, rfl⟩)
    go_ret
    exact ⟨ret_int (by omega), rfl⟩
set_option maxHeartbeats 1000000 in
theorem specBetweenOf_any (a b s : Int) (w : World) :
    Calls Try.prog 15 #[.int .i64 a, .int .i64 b, .int .i64 s] w fun r w' => r = .returned (.tuple #[.int .i64 (betV a b s), .int .i64 (betC a b s)]) ∧ w = w' := by
  unfold betV
  have cA := fun w => in_any a (-1000) 1000 w
  have cB := fun w => in_any b (-1000) 1000 w
  have cS := fun w => in_any s 0 1000 w
  rcases betC_cases a b s with ⟨h1, hc⟩ | ⟨h1, h2, hc⟩ | ⟨h1, h2, h3, hc⟩ | ⟨h1, h2, h3, hc⟩
  · rw [h1] at cA
    rw [hc, if_neg (by decide)]
    clear h1 hc
    go_enter Try.func15, Try.ntmps15
    go_wp2_with (go_at_call 30; first | (refine (cA _).mono ?_; rintro e w' ⟨rfl, rfl⟩; clear cA))
    go_ret2
    exact ⟨rfl, rfl⟩
  · rw [h1] at cA
    rw [h2] at cB
    rw [hc, if_neg (by decide)]
    clear h1 h2 hc
    go_enter Try.func15, Try.ntmps15
    go_wp2_with (go_at_call 30; first | (refine (cA _).mono ?_; rintro e w' ⟨rfl, rfl⟩; clear cA) | (refine (cB _).mono ?_; rintro e w' ⟨rfl, rfl⟩; clear cB))
    go_ret2
    exact ⟨rfl, rfl⟩
  · rw [h1] at cA
    rw [h2] at cB
    rw [h3] at cS
    rw [hc, if_neg (by decide)]
    clear h1 h2 h3 hc
    go_enter Try.func15, Try.ntmps15
    go_wp2_with (go_at_call 30; first | (refine (cA _).mono ?_; rintro e w' ⟨rfl, rfl⟩; clear cA) | (refine (cB _).mono ?_; rintro e w' ⟨rfl, rfl⟩; clear cB) | (refine (cS _).mono ?_; rintro e w' ⟨rfl, rfl⟩; clear cS))
    go_ret2
    exact ⟨rfl, rfl⟩
  · have cH := fun w => specBetween_any a b s w (inB_iff.1 h1) (inB_iff.1 h2) (inB_iff.1 h3)
    rw [h1] at cA
    rw [h2] at cB
    rw [h3] at cS
    rw [hc, if_pos rfl]
    clear h1 h2 h3 hc
    generalize betI a b s = v at *
    go_enter Try.func15, Try.ntmps15
    go_wp2_with (first | (go_at_call 30; first | (refine (cA _).mono ?_; rintro e w' ⟨rfl, rfl⟩; clear cA) | (refine (cB _).mono ?_; rintro e w' ⟨rfl, rfl⟩; clear cB) | (refine (cS _).mono ?_; rintro e w' ⟨rfl, rfl⟩; clear cS)) | (go_at_call 34; refine (cH _).mono ?_; rintro e w' ⟨rfl, rfl⟩))
    go_ret2
    exact ⟨rfl, rfl⟩
set_option maxHeartbeats 1000000 in
theorem implBetweenOf_any (a b s : Int) (w : World) :
    Calls Try.prog 14 #[.int .i64 a, .int .i64 b, .int .i64 s] w fun r w' => r = .returned (.tuple #[.int .i64 (betV a b s), .int .i64 (betC a b s)]) ∧ w = w' := by
  unfold betV
  have cA := fun w => isWithin_any a 1000 w (by decide) (by decide)
  have cB := fun w => isWithin_any b 1000 w (by decide) (by decide)
  rcases betC_cases a b s with ⟨h1, hc⟩ | ⟨h1, h2, hc⟩ | ⟨h1, h2, h3, hc⟩ | ⟨h1, h2, h3, hc⟩
  · rw [show inB a (-1000) 1000 = false from h1] at cA
    rw [hc, if_neg (by decide)]
    clear h1 hc
    go_enter Try.func14, Try.ntmps14
    go_wp2_with (go_at_call 32; first | (refine (cA _).mono ?_; rintro e w' ⟨rfl, rfl⟩; clear cA))
    go_ret2
    exact ⟨rfl, rfl⟩
  · rw [show inB a (-1000) 1000 = true from h1] at cA
    rw [show inB b (-1000) 1000 = false from h2] at cB
    rw [hc, if_neg (by decide)]
    clear h1 h2 hc
    go_enter Try.func14, Try.ntmps14
    go_wp2_with (go_at_call 32; first | (refine (cA _).mono ?_; rintro e w' ⟨rfl, rfl⟩; clear cA) | (refine (cB _).mono ?_; rintro e w' ⟨rfl, rfl⟩; clear cB))
    go_ret2
    exact ⟨rfl, rfl⟩
  · rw [show inB a (-1000) 1000 = true from h1] at cA
    rw [show inB b (-1000) 1000 = true from h2] at cB
    rw [hc, if_neg (by decide)]
    have q := inB_false.1 h3
    clear h1 h2 h3 hc
    rcases q with q | q
    · go_enter Try.func14, Try.ntmps14
      go_wp2_with (go_at_call 32; first | (refine (cA _).mono ?_; rintro e w' ⟨rfl, rfl⟩; clear cA) | (refine (cB _).mono ?_; rintro e w' ⟨rfl, rfl⟩; clear cB))
      go_ret2
      exact ⟨rfl, rfl⟩
    · go_enter Try.func14, Try.ntmps14
      go_wp2_with (go_at_call 32; first | (refine (cA _).mono ?_; rintro e w' ⟨rfl, rfl⟩; clear cA) | (refine (cB _).mono ?_; rintro e w' ⟨rfl, rfl⟩; clear cB))
      go_ret2
      exact ⟨rfl, rfl⟩
  · have cH := fun w => numberBetween_any a b s w (inB_iff.1 h1) (inB_iff.1 h2) (inB_iff.1 h3)
    rw [show inB a (-1000) 1000 = true from h1] at cA
    rw [show inB b (-1000) 1000 = true from h2] at cB
    rw [hc, if_pos rfl]
    have q := inB_iff.1 h3
    have q1 := q.1
    have q2 := q.2
    clear h1 h2 h3 hc q
    generalize betI a b s = v at *
    go_enter Try.func14, Try.ntmps14
    go_wp2_with (first | (go_at_call 32; first | (refine (cA _).mono ?_; rintro e w' ⟨rfl, rfl⟩; clear cA) | (refine (cB _).mono ?_; rintro e w' ⟨rfl, rfl⟩; clear cB)) | (go_at_call 33; refine (cH _).mono ?_; rintro e w' ⟨rfl, rfl⟩))
    go_ret2
    exact ⟨rfl, rfl⟩
end Go.Proofs.Ytoccklhfiojemab
