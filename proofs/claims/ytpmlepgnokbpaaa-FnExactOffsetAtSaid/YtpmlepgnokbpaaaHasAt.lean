/- spec.l01Has at whatever address. -/
import Derived.Test.YtpmlepgnokbpaaaS1
import Derived.Test.YtpmlepgnokbpaaaSBook
namespace Go.Proofs.Ytpmlepgnokbpaaa
set_option maxRecDepth 100000
open Go.RowKit
set_option linter.unusedVariables false
set_option maxHeartbeats 400000 in
theorem hasAtS_any (B off : Nat) (f : Nat → Nat) (x y : Nat) (hx : x < 12) (hy : y < 12) (w : World) (hf : ∀ k, f k < 65536) (r : w.rangeAt B off (FC f).toList) :
    Calls Try.prog 121 #[.pointer (some ⟨B, off, none⟩), .int .i64 x, .int .i64 y] w fun e w' => e = .returned (.bool ((f y).testBit x)) ∧ w = w' := by
  have hp : plB (x : Int) (y : Int) = true := plB_iff.2 (by omega)
  have c1 := fr_cell r hy
  have hfy := hf y
  clear hf r
  go_enter Try.func121, Try.ntmps121
  go_wp2_with (go_at_call 122; refine (place_any _ _ _).mono ?_; rintro e w' ⟨rfl, rfl⟩)
  go_ret
  refine ⟨ret_bool ?_, rfl⟩
  go_light
  rw [tmod_bit]
end Go.Proofs.Ytpmlepgnokbpaaa
