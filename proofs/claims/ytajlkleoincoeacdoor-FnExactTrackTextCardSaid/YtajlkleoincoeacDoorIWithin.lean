/- impl: isTick, isWithin. -/
import Derived.Test.YtajlkleoincoeacDoorS1
import Derived.Test.YtajlkleoincoeacDoorMath
namespace Go.Proofs.YtajlkleoincoeacDoor
set_option maxRecDepth 100000
open Go.RowKit
set_option linter.unusedVariables false
theorem isTick_any (z : Int) (w : World) : Calls Tryd.prog 86 #[.int .i64 z] w fun e w' => e = .returned (.bool (inB z 0 200)) ∧ w = w' := by
  by_cases h1 : 0 ≤ z
  · go_enter Tryd.func86, Tryd.ntmps86
    go_wp2
    go_ret
    exact ⟨ret_bool (by simp [inB, h1]), rfl⟩
  · go_enter Tryd.func86, Tryd.ntmps86
    go_wp2
    go_ret
    exact ⟨ret_bool (by rw [inB_false.2 (by omega)]), rfl⟩
theorem isWithin_any (z m : Int) (w : World) (h0 : 0 ≤ m) (hm : m ≤ 100000) : Calls Tryd.prog 101 #[.int .i64 z, .int .i64 m] w fun e w' => e = .returned (.bool (inB z (-m) m)) ∧ w = w' := by
  by_cases h1 : -m ≤ z
  · go_enter Tryd.func101, Tryd.ntmps101
    go_wp2
    go_ret
    exact ⟨ret_bool (by simp [inB, h1]), rfl⟩
  · go_enter Tryd.func101, Tryd.ntmps101
    go_wp2
    go_ret
    exact ⟨ret_bool (by rw [inB_false.2 (by omega)]), rfl⟩
end Go.Proofs.YtajlkleoincoeacDoor
