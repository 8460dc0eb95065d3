/- spec.l01Way at whatever address. -/
import Derived.Test.YtpmlepgnokbpaaaSMove
import Derived.Test.YtpmlepgnokbpaaaSBook
namespace Go.Proofs.Ytpmlepgnokbpaaa
set_option maxRecDepth 100000
open Go.RowKit
set_option linter.unusedVariables false
set_option maxHeartbeats 400000 in
theorem wayAt_any (B off : Nat) (f : Nat → Nat) (e s : Int) (w : World) (hB : w.rangeAt B off (FC f).toList) :
    Calls Try.prog 66 #[.pointer (some ⟨B, off, none⟩), .int .i64 e, .int .i64 s] w fun e' w' => e' = .returned (.int .i64 (wayC f e s)) ∧ w = w' := by
  rcases wayC_cases f e s with ⟨ho, ha⟩ | ⟨ho, h1, ha⟩ | ⟨ho, h1, h2, ha⟩ | ⟨ho, h1, h2, ha⟩
  all_goals
    have HA := Lib.hid ha
    clear ha
    go_enter Try.func66, Try.ntmps66
    go_wp2_with (first | (go_at_call 91; refine (okAt_any _ _ f _ hB).mono ?_; rintro e' w' ⟨rfl, rfl⟩) | (go_at_call 73; refine (in_any _ _ _ _).mono ?_; rintro e' w' ⟨rfl, rfl⟩))
    go_ret
    exact ⟨ret_int HA.out.symm, rfl⟩
end Go.Proofs.Ytpmlepgnokbpaaa
