/- spec: l01Both. -/
import Derived.Test.YtpmlepgnokbpaaaRows
import Derived.Test.YtpmlepgnokbpaaaS1
namespace Go.Proofs.Ytpmlepgnokbpaaa
set_option maxRecDepth 100000
open Go.RowKit
set_option linter.unusedVariables false
set_option maxHeartbeats 400000 in
theorem both_any (A B : Nat) (f g : Nat → Nat) (w : World) (hA : Blk w A 27 f) (hB : Blk w B 27 g) :
    Calls Try.prog 63 #[.pointer (some ⟨A, 0, none⟩), .pointer (some ⟨B, 0, none⟩)] w fun e' w' => e' = .returned (.int .i64 (bothC f g)) ∧ w = w' := by
  rcases bothC_cases f g with ⟨ho, ha⟩ | ⟨ho, h1, ha⟩ | ⟨ho, h1, ha⟩
  all_goals
    have HA := Lib.hid ha
    clear ha
    go_enter Try.func63, Try.ntmps63
    go_wp2_with (go_at_call 91; refine (ok_any _ _ _ (by assumption)).mono ?_; rintro e' w' ⟨rfl, rfl⟩)
    go_ret
    exact ⟨ret_int HA.out.symm, rfl⟩
end Go.Proofs.Ytpmlepgnokbpaaa
