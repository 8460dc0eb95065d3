/- EASES: spec: l03Ease, l03Share, EaseOf; l03Size, l03Between, BetweenOf. impl: isEase, isStep, isWithin, the four shares, shareOf, EaseOf, sizeOf, numberBetween, BetweenOf. -/
import Derived.Test.YtkcomhbmhgnhhaaDoorEaseM
import Derived.Test.YtkcomhbmhgnhhaaDoorS1
import Derived.Test.YtkcomhbmhgnhhaaDoorQuiet
namespace Go.Proofs.YtkcomhbmhgnhhaaDoor
set_option maxRecDepth 100000
open Go.RowKit
set_option linter.unusedVariables false
set_option linter.unusedSimpArgs false
theorem specEase_any (z : Int) (w : World) : Calls Tryd.prog 73 #[.int .i64 z] w fun e w' => e = .returned (.bool (inB z 0 3)) ∧ w = w' := by
  go_enter Tryd.func73, Tryd.ntmps73
  go_wp2_with (go_at_call 45; refine (in_any _ _ _ _).mono ?_; rintro e w' ⟨rfl, rfl⟩)
  go_ret
  exact ⟨rfl, rfl⟩
/-- The products of a share, as numbers of their own. -/
theorem prods {s n : Int} (hs : 0 ≤ s ∧ s ≤ n) (hn : 1 ≤ n ∧ n ≤ 200) : ∃ a b : Int, a = s * s ∧ b = n * n ∧ 0 ≤ a ∧ a ≤ 40000 ∧ 1 ≤ b ∧ b ≤ 40000 ∧ IntKind.i64.wrap (s * s) = a ∧ IntKind.i64.wrap (n * n) = b := by
  have h1 := mul_bounds (a := s) (b := s) (m := 200) (n := 200) ⟨hs.1, by omega⟩ ⟨hs.1, by omega⟩
  have h2 := mul_bounds (a := n) (b := n) (m := 200) (n := 200) ⟨by omega, hn.2⟩ ⟨by omega, hn.2⟩
  have h3 : 1 * 1 ≤ n * n := Int.mul_le_mul hn.1 hn.1 (by omega) (by omega)
  exact ⟨_, _, rfl, rfl, by omega, by omega, by omega, by omega, IntWalk.i64_in _ (by omega), IntWalk.i64_in _ (by omega)⟩
theorem quot {x y : Int} (hx : 0 ≤ x ∧ x ≤ 1000000000) (hy : 1 ≤ y) : ∃ q : Int, q = x / y ∧ 0 ≤ q ∧ q ≤ 1000000000 ∧ wrap64 (x / y) = q ∧ (y == 0) = false := by
  have := div_bounds (x := x) (m := 1000000000) hx.1 hy (by have := Int.mul_le_mul_of_nonneg_left (a := 1) (b := y) (c := 1000000000) (by omega) (by omega); omega)
  exact ⟨_, rfl, this.1, this.2, IntWalk.wrap64_in _ (by omega), by simp; omega⟩
set_option maxHeartbeats 1000000 in
theorem specShare_any (e s n : Int) (w : World) (he : 0 ≤ e ∧ e ≤ 3) (hs : 0 ≤ s ∧ s ≤ n) (hn : 1 ≤ n ∧ n ≤ 200) :
    Calls Tryd.prog 70 #[.int .i64 e, .int .i64 s, .int .i64 n] w fun r w' => r = .returned (.int .i64 (shareI e s n)) ∧ w = w' := by
  have hs1 := hs.1
  have hs2 := hs.2
  have hn1 := hn.1
  have hn2 := hn.2
  obtain ⟨a, b, ha, hb, ha0, ha1, hb0, hb1, k1, k2⟩ := prods hs hn
  have kr : IntKind.i64.wrap (n - s) = n - s := IntWalk.i64_in _ (by omega)
  obtain ⟨c, _, hc, _, hc0, hc1, _, _, k3, _⟩ := prods (s := n - s) ⟨by omega, by omega⟩ hn
  have hcases : e = 0 ∨ e = 1 ∨ e = 2 ∨ e = 3 := by omega
  clear he
  rcases hcases with rfl | rfl | rfl | rfl
  · obtain ⟨q, hq, hq0, hq1, kq, kz⟩ := quot (x := s * 1000) (y := n) (by omega) hn1
    have k4 : IntKind.i64.wrap (s * 1000) = s * 1000 := IntWalk.i64_in _ (by omega)
    have hv : shareI 0 s n = q := by rw [hq]; rfl
    rw [hv]
    have HQ := Lib.hid hq
    clear hs hn hv hq ha hb hc
    go_enter Tryd.func70, Tryd.ntmps70
    go_wp2
    go_ret
    exact ⟨ret_int (by first | exact HQ.out.symm | (rw [← HQ.out]; exact IntWalk.wrap64_in _ (by omega))), rfl⟩
  · obtain ⟨q, hq, hq0, hq1, kq, kz⟩ := quot (x := a * 1000) (y := b) (by omega) hb0
    have hv : shareI 1 s n = q := by rw [hq, ha, hb]; rfl
    rw [hv]
    have HQ := Lib.hid hq
    clear hs hn hv hq ha hb hc
    go_enter Tryd.func70, Tryd.ntmps70
    go_wp2
    go_ret
    exact ⟨ret_int (by first | exact HQ.out.symm | (rw [← HQ.out]; exact IntWalk.wrap64_in _ (by omega))), rfl⟩
  · obtain ⟨q, hq, hq0, hq1, kq, kz⟩ := quot (x := c * 1000) (y := b) (by omega) hb0
    have hv : shareI 2 s n = 1000 - q := by rw [hq, hc, hb]; rfl
    rw [hv]
    have HQ := Lib.hid hq
    clear hs hn hv hq ha hb hc
    go_enter Tryd.func70, Tryd.ntmps70
    go_wp2
    go_ret
    exact ⟨ret_int (by first | exact HQ.out.symm | (rw [← HQ.out]; exact IntWalk.wrap64_in _ (by omega))), rfl⟩
  · by_cases h2 : 2 * s < n
    · obtain ⟨d, hd⟩ : ∃ d, d = 2 * s * s := ⟨_, rfl⟩
      have hd0 : 0 ≤ d ∧ d ≤ 200 * 200 := by rw [hd]; exact mul_bounds ⟨by omega, by omega⟩ ⟨by omega, by omega⟩
      have k5 : IntKind.i64.wrap (2 * s * s) = d := by rw [IntWalk.i64_in _ (by omega), hd]
      have hd1 := hd0.1
      have hd2 := hd0.2
      obtain ⟨q, hq, hq0, hq1, kq, kz⟩ := quot (x := d * 1000) (y := b) (by omega) hb0
      have hv : shareI 3 s n = q := by rw [hq, hd, hb]; unfold shareI; simp [h2]
      rw [hv]
      have HQ := Lib.hid hq
      clear hs hn hv hq ha hb hc hd hd0
      go_enter Tryd.func70, Tryd.ntmps70
      go_wp2
      go_ret
      exact ⟨ret_int (by first | exact HQ.out.symm | (rw [← HQ.out]; exact IntWalk.wrap64_in _ (by omega))), rfl⟩
    · obtain ⟨d, hd⟩ : ∃ d, d = 2 * (n - s) * (n - s) := ⟨_, rfl⟩
      have hd0 : 0 ≤ d ∧ d ≤ 200 * 200 := by rw [hd]; exact mul_bounds ⟨by omega, by omega⟩ ⟨by omega, by omega⟩
      have k5 : IntKind.i64.wrap (2 * (n - s) * (n - s)) = d := by rw [IntWalk.i64_in _ (by omega), hd]
      have hd1 := hd0.1
      have hd2 := hd0.2
      obtain ⟨q, hq, hq0, hq1, kq, kz⟩ := quot (x := d * 1000) (y := b) (by omega) hb0
      have hv : shareI 3 s n = 1000 - q := by rw [hq, hd, hb]; unfold shareI; simp [h2]
      rw [hv]
      have HQ := Lib.hid hq
      clear hs hn hv hq ha hb hc hd hd0
      go_enter Tryd.func70, Tryd.ntmps70
      go_wp2
      go_ret
      exact ⟨ret_int (by first | exact HQ.out.symm | (rw [← HQ.out]; exact IntWalk.wrap64_in _ (by omega))), rfl⟩
end Go.Proofs.YtkcomhbmhgnhhaaDoor
