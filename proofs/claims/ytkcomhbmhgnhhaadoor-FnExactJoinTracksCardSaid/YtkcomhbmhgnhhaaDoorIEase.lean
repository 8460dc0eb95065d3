/- EASES, the program: isEase, isStep, the four shares, shareOf, EaseOf. -/
import Derived.Test.YtkcomhbmhgnhhaaDoorEase
namespace Go.Proofs.YtkcomhbmhgnhhaaDoor
set_option maxRecDepth 100000
open Go.RowKit
set_option linter.unusedVariables false
set_option linter.unusedSimpArgs false
theorem isEase_any (z : Int) (w : World) : Calls Tryd.prog 76 #[.int .i64 z] w fun e w' => e = .returned (.bool (inB z 0 3)) ∧ w = w' := by
  by_cases h1 : 0 ≤ z
  · go_enter Tryd.func76, Tryd.ntmps76
    go_wp2
    go_ret
    exact ⟨ret_bool (by simp [inB, h1]), rfl⟩
  · go_enter Tryd.func76, Tryd.ntmps76
    go_wp2
    go_ret
    exact ⟨ret_bool (by rw [inB_false.2 (by omega)]), rfl⟩
theorem evenShare_any (s n : Int) (w : World) (hs : 0 ≤ s ∧ s ≤ n) (hn : 1 ≤ n ∧ n ≤ 200) :
    Calls Tryd.prog 85 #[.int .i64 s, .int .i64 n] w fun r w' => r = .returned (.int .i64 (shareI 0 s n)) ∧ w = w' := by
  have hs1 := hs.1
  have hs2 := hs.2
  have hn1 := hn.1
  have hn2 := hn.2
  obtain ⟨q, hq, hq0, hq1, kq, kz⟩ := quot (x := s * 1000) (y := n) (by omega) hn1
  have hv : shareI 0 s n = q := by rw [hq]; rfl
  rw [hv]
  have HQ := Lib.hid hq
  clear hs hn hv hq
  go_enter Tryd.func85, Tryd.ntmps85
  go_wp2
  go_ret
  exact ⟨ret_int (by first | exact HQ.out.symm | (rw [← HQ.out]; exact IntWalk.wrap64_in _ (by omega))), rfl⟩
theorem slowInShare_any (s n : Int) (w : World) (hs : 0 ≤ s ∧ s ≤ n) (hn : 1 ≤ n ∧ n ≤ 200) :
    Calls Tryd.prog 86 #[.int .i64 s, .int .i64 n] w fun r w' => r = .returned (.int .i64 (shareI 1 s n)) ∧ w = w' := by
  have hs1 := hs.1
  have hs2 := hs.2
  have hn1 := hn.1
  have hn2 := hn.2
  obtain ⟨a, b, ha, hb, ha0, ha1, hb0, hb1, k1, k2⟩ := prods hs hn
  obtain ⟨q, hq, hq0, hq1, kq, kz⟩ := quot (x := a * 1000) (y := b) (by omega) hb0
  have hv : shareI 1 s n = q := by rw [hq, ha, hb]; rfl
  rw [hv]
  have HQ := Lib.hid hq
  clear hs hn hv hq ha hb
  go_enter Tryd.func86, Tryd.ntmps86
  go_wp2
  go_ret
  exact ⟨ret_int (by first | exact HQ.out.symm | (rw [← HQ.out]; exact IntWalk.wrap64_in _ (by omega))), rfl⟩
theorem slowOutShare_any (s n : Int) (w : World) (hs : 0 ≤ s ∧ s ≤ n) (hn : 1 ≤ n ∧ n ≤ 200) :
    Calls Tryd.prog 87 #[.int .i64 s, .int .i64 n] w fun r w' => r = .returned (.int .i64 (shareI 2 s n)) ∧ w = w' := by
  have hs1 := hs.1
  have hs2 := hs.2
  have hn1 := hn.1
  have hn2 := hn.2
  have cI := fun w => slowInShare_any (n - s) n w ⟨by omega, by omega⟩ hn
  have hb := sq_share (s := n - s) (n := n) ⟨by omega, by omega⟩ hn1
  have hv : shareI 2 s n = 1000 - shareI 1 (n - s) n := rfl
  have hu : shareI 1 (n - s) n = (n - s) * (n - s) * 1000 / (n * n) := rfl
  rw [← hu] at hb
  have hb1 := hb.1
  have hb2 := hb.2
  have kr : IntKind.i64.wrap (n - s) = n - s := IntWalk.i64_in _ (by omega)
  rw [hv]
  clear hv hu hb hs hn
  generalize shareI 1 (n - s) n = q at *
  go_enter Tryd.func87, Tryd.ntmps87
  go_wp2_with (go_at_call 86; refine (cI _).mono ?_; rintro e w' ⟨rfl, rfl⟩)
  go_ret
  exact ⟨rfl, rfl⟩
set_option maxHeartbeats 1000000 in
theorem slowBothShare_any (s n : Int) (w : World) (hs : 0 ≤ s ∧ s ≤ n) (hn : 1 ≤ n ∧ n ≤ 200) :
    Calls Tryd.prog 88 #[.int .i64 s, .int .i64 n] w fun r w' => r = .returned (.int .i64 (shareI 3 s n)) ∧ w = w' := by
  have hs1 := hs.1
  have hs2 := hs.2
  have hn1 := hn.1
  have hn2 := hn.2
  obtain ⟨a, b, ha, hb, ha0, ha1, hb0, hb1, k1, k2⟩ := prods hs hn
  have kr : IntKind.i64.wrap (n - s) = n - s := IntWalk.i64_in _ (by omega)
  by_cases h2 : 2 * s < n
  · obtain ⟨d, hd⟩ : ∃ d, d = 2 * s * s := ⟨_, rfl⟩
    have hd0 : 0 ≤ d ∧ d ≤ 200 * 200 := by rw [hd]; exact mul_bounds ⟨by omega, by omega⟩ ⟨by omega, by omega⟩
    have k5 : IntKind.i64.wrap (2 * s * s) = d := by rw [IntWalk.i64_in _ (by omega), hd]
    have hd1 := hd0.1
    have hd2 := hd0.2
    obtain ⟨q, hq, hq0, hq1, kq, kz⟩ := quot (x := d * 1000) (y := b) (by omega) hb0
    have hv : shareI 3 s n = q := by rw [hq, hd, hb]; unfold shareI; simp [h2]
    rw [hv]
    have HQ := Lib.hid hq
    clear hs hn hv hq ha hb hd hd0 k1
    go_enter Tryd.func88, Tryd.ntmps88
    go_wp2
    go_ret
    exact ⟨ret_int (by first | exact HQ.out.symm | (rw [← HQ.out]; exact IntWalk.wrap64_in _ (by omega))), rfl⟩
  · obtain ⟨d, hd⟩ : ∃ d, d = 2 * (n - s) * (n - s) := ⟨_, rfl⟩
    have hd0 : 0 ≤ d ∧ d ≤ 200 * 200 := by rw [hd]; exact mul_bounds ⟨by omega, by omega⟩ ⟨by omega, by omega⟩
    have k5 : IntKind.i64.wrap (2 * (n - s) * (n - s)) = d := by rw [IntWalk.i64_in _ (by omega), hd]
    have hd1 := hd0.1
    have hd2 := hd0.2
    obtain ⟨q, hq, hq0, hq1, kq, kz⟩ := quot (x := d * 1000) (y := b) (by omega) hb0
    have hv : shareI 3 s n = 1000 - q := by rw [hq, hd, hb]; unfold shareI; simp [h2]
    rw [hv]
    have HQ := Lib.hid hq
    clear hs hn hv hq ha hb hd hd0 k1
    go_enter Tryd.func88, Tryd.ntmps88
    go_wp2
    go_ret
    exact ⟨ret_int (by first | exact HQ.out.symm | (rw [← HQ.out]; exact IntWalk.wrap64_in _ (by omega))), rfl⟩
end Go.Proofs.YtkcomhbmhgnhhaaDoor
