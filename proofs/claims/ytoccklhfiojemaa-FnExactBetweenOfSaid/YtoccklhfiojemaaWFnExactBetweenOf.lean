/- The walk of the law FnExactBetweenOf: it returns true and writes nothing that was there. -/
import Derived.Test.YtoccklhfiojemaaRows
import Derived.Test.YtoccklhfiojemaaL1
import Derived.Test.YtoccklhfiojemaaBetween
namespace Go.Proofs.Ytoccklhfiojemaa.wFnExactBetweenOf
set_option maxRecDepth 100000
open Go.RowKit
set_option linter.unusedVariables false
set_option maxHeartbeats 1000000 in
theorem walk (a : Int) (b : Int) (s : Int) (ha : (Lit.int .i64 a).wf = true) (hb : (Lit.int .i64 b).wf = true) (hs : (Lit.int .i64 s).wf = true) (w : World) :
    Calls Try.prog 4 #[.int .i64 a, .int .i64 b, .int .i64 s] w fun r w' => r = .returned (.bool true) ∧ Below w.heap.size w w' := by
  have cS := fun w => specBetweenOf_any a b s w
  have cI := fun w => implBetweenOf_any a b s w
  have h0 := Below.refl w.heap.size w
  go_enter Try.func4, Try.ntmps4
  go_wp2_with (first | (go_at_call 10; refine (cS _).mono ?_; rintro r w1 ⟨rfl, rfl⟩) | (go_at_call 11; refine (cI _).mono ?_; rintro r w2 ⟨rfl, rfl⟩))
  go_ret
  exact ⟨rfl, h0⟩
end Go.Proofs.Ytoccklhfiojemaa.wFnExactBetweenOf
