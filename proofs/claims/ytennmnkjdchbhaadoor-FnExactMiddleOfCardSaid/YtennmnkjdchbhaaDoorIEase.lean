/- EASES, the program: isEase, isStep, the four shares, shareOf, EaseOf. -/
import Derived.Test.YtennmnkjdchbhaaDoorEase
namespace Go.Proofs.YtennmnkjdchbhaaDoor
set_option maxRecDepth 100000
open Go.RowKit
set_option linter.unusedVariables false
set_option linter.unusedSimpArgs false
theorem isStep_any (s n : Int) (w : World) : Calls Tryd.prog 34 #[.int .i64 s, .int .i64 n] w fun e w' => e = .returned (.bool (inB n 1 200 && inB s 0 n)) ∧ w = w' := by
  by_cases h1 : 1 ≤ n
  · by_cases h2 : n ≤ 200
    · by_cases h3 : 0 ≤ s
      · go_enter Tryd.func34, Tryd.ntmps34
        go_wp2
        go_ret
        exact ⟨ret_bool (by simp [inB, h1, h2, h3]), rfl⟩
      · go_enter Tryd.func34, Tryd.ntmps34
        go_wp2
        go_ret
        exact ⟨ret_bool (by rw [inB_false.2 (by omega : s < 0 ∨ n < s), Bool.and_false]), rfl⟩
    · go_enter Tryd.func34, Tryd.ntmps34
      go_wp2
      go_ret
      exact ⟨ret_bool (by rw [inB_false.2 (by omega : n < 1 ∨ 200 < n), Bool.false_and]), rfl⟩
  · go_enter Tryd.func34, Tryd.ntmps34
    go_wp2
    go_ret
    exact ⟨ret_bool (by rw [inB_false.2 (by omega : n < 1 ∨ 200 < n), Bool.false_and]), rfl⟩
end Go.Proofs.YtennmnkjdchbhaaDoor
