/- impl: isTick, isWithin. -/
import Derived.Test.YtpmlepgnokbpaaaS1
import Derived.Test.YtpmlepgnokbpaaaMath
namespace Go.Proofs.Ytpmlepgnokbpaaa
set_option maxRecDepth 100000
open Go.RowKit
set_option linter.unusedVariables false
theorem isTick_any (z : Int) (w : World) : Calls Try.prog 111 #[.int .i64 z] w fun e w' => e = .returned (.bool (inB z 0 200)) ∧ w = w' := by
  by_cases h1 : 0 ≤ z
  · go_enter Try.func111, Try.ntmps111
    go_wp2
    go_ret
    exact ⟨ret_bool (by simp [inB, h1]), rfl⟩
  · go_enter Try.func111, Try.ntmps111
    go_wp2
    go_ret
    exact ⟨ret_bool (by rw [inB_false.2 (by omega)]), rfl⟩
theorem isWithin_any (z m : Int) (w : World) (h0 : 0 ≤ m) (hm : m ≤ 100000) : Calls Try.prog 104 #[.int .i64 z, .int .i64 m] w fun e w' => e = .returned (.bool (inB z (-m) m)) ∧ w = w' := by
  by_cases h1 : -m ≤ z
  · go_enter Try.func104, Try.ntmps104
    go_wp2
    go_ret
    exact ⟨ret_bool (by simp [inB, h1]), rfl⟩
  · go_enter Try.func104, Try.ntmps104
    go_wp2
    go_ret
    exact ⟨ret_bool (by rw [inB_false.2 (by omega)]), rfl⟩
end Go.Proofs.Ytpmlepgnokbpaaa
