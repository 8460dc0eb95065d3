/- The walk of the law FnExactCodeName: it returns true and writes nothing that was there. -/
import Derived.Test.YtemeamamdddfnaaRows
import Derived.Test.YtemeamamdddfnaaL1
import Derived.Test.YtemeamamdddfnaaCodeName
namespace Go.Proofs.Ytemeamamdddfnaa.wFnExactCodeName
open Go.RowKit
set_option linter.unusedVariables false
set_option maxHeartbeats 1000000 in
theorem walk (c : Int) (hc : (Lit.int .i64 c).wf = true) (w : World) :
    Calls Try.prog 3 #[.int .i64 c] w fun e w' => e = .returned (.bool true) ∧ Below w.heap.size w w' := by
  have h0 := (Below.refl w.heap.size w)
  go_enter Try.func3, Try.ntmps3
  go_wp2_with (first | (refine wpList_load_fr rfl 25 24 _ rfl _ rfl (by assumption) Try.underlying25 (by kernel_rfl) ?_) | (go_at_call 11; refine (specCodeName_any c _).mono ?_; rintro e w1 ⟨rfl, hb1⟩; replace h0 := grown_below h0 hb1 h0.size; clear hb1) | (go_at_call 12; refine (implCodeName_any c _).mono ?_; rintro e w1 ⟨rfl, hb1⟩; replace h0 := grown_below h0 hb1 h0.size; clear hb1))
  go_ret
  exact ⟨rfl, h0⟩
end Go.Proofs.Ytemeamamdddfnaa.wFnExactCodeName
