/- The walk of the law FnExactHasDot: it returns true and writes nothing that was there. -/
import Derived.Test.YtemeamamdddfnaaRows
import Derived.Test.YtemeamamdddfnaaL1
import Derived.Test.YtemeamamdddfnaaHasDot
namespace Go.Proofs.Ytemeamamdddfnaa.wFnExactHasDot
open Go.RowKit
set_option linter.unusedVariables false
set_option maxHeartbeats 1000000 in
theorem walk (f : Nat → Nat) (x : Int) (y : Int) (hf : ∀ k, f k < 65536) (hx : (Lit.int .i64 x).wf = true) (hy : (Lit.int .i64 y).wf = true) (w : World) :
    Calls Try.prog 5 #[.agg (FC f), .int .i64 x, .int .i64 y] w fun e w' => e = .returned (.bool true) ∧ Below w.heap.size w w' := by
  have bf := Blk.new w 25 f
  have h0 := ((Below.refl w.heap.size w).alloc (Nat.le_refl _) (.cells (FC f) 25))
  go_enter Try.func5, Try.ntmps5
  go_wp2_with (first | (refine wpList_load_fr rfl 25 24 _ rfl _ rfl (by assumption) Try.underlying25 (by kernel_rfl) ?_) | (go_at_call 14; refine (toFrame_any f _).mono ?_; rintro e w1 ⟨rfl, hb1⟩; replace bf := bf.below hb1 bf.lt; replace h0 := grown_below h0 hb1 h0.size; clear hb1) | (go_at_call 16; refine (specHasDot_any f x y hf _).mono ?_; rintro e w1 ⟨rfl, hb1⟩; replace bf := bf.below hb1 bf.lt; replace h0 := grown_below h0 hb1 h0.size; clear hb1) | (go_at_call 17; refine (implHasDot_any f x y hf _).mono ?_; rintro e w1 ⟨rfl, hb1⟩; replace bf := bf.below hb1 bf.lt; replace h0 := grown_below h0 hb1 h0.size; clear hb1))
  go_ret
  exact ⟨rfl, h0⟩
end Go.Proofs.Ytemeamamdddfnaa.wFnExactHasDot
