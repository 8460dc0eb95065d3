import Derived.Test.YtpmlepgnokbpaaaM6
import Derived.Test.YtpmlepgnokbpaaaM1
import Derived.Test.YtpmlepgnokbpaaaRows
import Derived.Test.YtpmlepgnokbpaaaM2
/- EASES: spec: l03Ease, l03Share, EaseOf; l03Size, l03Between, BetweenOf. impl: isEase, isStep, isWithin, the four shares, shareOf, EaseOf, sizeOf, numberBetween, BetweenOf. -/
namespace Go.Proofs.Ytpmlepgnokbpaaa
set_option maxRecDepth 100000
open Go.RowKit
set_option linter.unusedVariables false
set_option linter.unusedSimpArgs false
theorem specEase_any (z : Int) (w : World) : Calls Try.prog 107 #[.int .i64 z] w fun e w' => e = .returned (.bool (inB z 0 3)) ∧ w = w' := by
  go_enter Try.func107, Try.ntmps107
  go_wp2_with (go_at_call 73; refine (in_any _ _ _ _).mono ?_; rintro e w' ⟨rfl, rfl⟩)
  go_ret
  exact ⟨rfl, rfl⟩
/-- The products of a share, as numbers of their own. -/
theorem prods {s n : Int} (hs : 0 ≤ s ∧ s ≤ n) (hn : 1 ≤ n ∧ n ≤ 200) : ∃ a b : Int, a = s * s ∧ b = n * n ∧ 0 ≤ a ∧ a ≤ 40000 ∧ 1 ≤ b ∧ b ≤ 40000 ∧ IntKind.i64.wrap (s * s) = a ∧ IntKind.i64.wrap (n * n) = b := by
  have h1 := mul_bounds (a := s) (b := s) (m := 200) (n := 200) ⟨hs.1, by omega⟩ ⟨hs.1, by omega⟩
  have h2 := mul_bounds (a := n) (b := n) (m := 200) (n := 200) ⟨by omega, hn.2⟩ ⟨by omega, hn.2⟩
  have h3 : 1 * 1 ≤ n * n := Int.mul_le_mul hn.1 hn.1 (by omega) (by omega)
  exact ⟨_, _, rfl, rfl, by omega, by omega, by omega, by omega, IntWalk.i64_in _ (by omega), IntWalk.i64_in _ (by omega)⟩
theorem quot {x y : Int} (hx : 0 ≤ x ∧ x ≤ 1000000000) (hy : 1 ≤ y) : ∃ q : Int, q = x / y ∧ 0 ≤ q ∧ q ≤ 1000000000 ∧ wrap64 (x / y) = q ∧ (y == 0) = false := by
  have := div_bounds (x := x) (m := 1000000000) hx.1 hy (by have := Int.mul_le_mul_of_nonneg_left (a := 1) (b := y) (c := 1000000000) (by omega) (by omega); omega)
  exact ⟨_, rfl, this.1, this.2, IntWalk.wrap64_in _ (by omega), by simp; omega⟩
end Go.Proofs.Ytpmlepgnokbpaaa

/- EASES, the program: isEase, isStep, the four shares, shareOf, EaseOf. -/
namespace Go.Proofs.Ytpmlepgnokbpaaa
set_option maxRecDepth 100000
open Go.RowKit
set_option linter.unusedVariables false
set_option linter.unusedSimpArgs false
theorem isEase_any (z : Int) (w : World) : Calls Try.prog 89 #[.int .i64 z] w fun e w' => e = .returned (.bool (inB z 0 3)) ∧ w = w' := by
  by_cases h1 : 0 ≤ z
  · go_enter Try.func89, Try.ntmps89
    go_wp2
    go_ret
    exact ⟨ret_bool (by simp [inB, h1]), rfl⟩
  · go_enter Try.func89, Try.ntmps89
    go_wp2
    go_ret
    exact ⟨ret_bool (by rw [inB_false.2 (by omega)]), rfl⟩
end Go.Proofs.Ytpmlepgnokbpaaa

/- math/bits.OnesCount16. -/
namespace Go.Proofs.Ytpmlepgnokbpaaa
open Go.RowKit
end Go.Proofs.Ytpmlepgnokbpaaa
