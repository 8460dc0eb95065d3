/- The walk of the law FnExactEaseOf: it returns true and writes nothing that was there. -/
import Derived.Test.YtoccklhfiojemaaRows
import Derived.Test.YtoccklhfiojemaaL1
import Derived.Test.YtoccklhfiojemaaEase
import Derived.Test.YtoccklhfiojemaaIShareOf
namespace Go.Proofs.Ytoccklhfiojemaa.wFnExactEaseOf
set_option maxRecDepth 100000
open Go.RowKit
set_option linter.unusedVariables false
set_option maxHeartbeats 1000000 in
theorem walk (e : Int) (s : Int) (n : Int) (he : (Lit.int .i64 e).wf = true) (hs : (Lit.int .i64 s).wf = true) (hn : (Lit.int .i64 n).wf = true) (w : World) :
    Calls Try.prog 3 #[.int .i64 e, .int .i64 s, .int .i64 n] w fun r w' => r = .returned (.bool true) ∧ Below w.heap.size w w' := by
  have cS := fun w => specEaseOf_any e s n w
  have cI := fun w => implEaseOf_any e s n w
  have h0 := Below.refl w.heap.size w
  go_enter Try.func3, Try.ntmps3
  go_wp2_with (first | (go_at_call 8; refine (cS _).mono ?_; rintro r w1 ⟨rfl, rfl⟩) | (go_at_call 9; refine (cI _).mono ?_; rintro r w2 ⟨rfl, hb⟩; replace h0 := grown_below h0 hb h0.size; clear hb))
  go_ret
  exact ⟨rfl, h0⟩
end Go.Proofs.Ytoccklhfiojemaa.wFnExactEaseOf
