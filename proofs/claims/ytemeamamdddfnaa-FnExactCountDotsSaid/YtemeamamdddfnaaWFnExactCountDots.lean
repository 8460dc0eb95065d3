/- The walk of the law FnExactCountDots: it returns true and writes nothing that was there. -/
import Derived.Test.YtemeamamdddfnaaRows
import Derived.Test.YtemeamamdddfnaaL1
import Derived.Test.YtemeamamdddfnaaCount
namespace Go.Proofs.Ytemeamamdddfnaa.wFnExactCountDots
open Go.RowKit
set_option linter.unusedVariables false
set_option maxHeartbeats 1000000 in
theorem walk (f : Nat → Nat) (hf : ∀ k, f k < 65536) (w : World) :
    Calls Try.prog 7 #[.agg (FC f)] w fun e w' => e = .returned (.bool true) ∧ Below w.heap.size w w' := by
  have bf := Blk.new w 25 f
  have h0 := ((Below.refl w.heap.size w).alloc (Nat.le_refl _) (.cells (FC f) 25))
  go_enter Try.func7, Try.ntmps7
  go_wp2_with (first | (refine wpList_load_fr rfl 25 24 _ rfl _ rfl (by assumption) Try.underlying25 (by kernel_rfl) ?_) | (go_at_call 14; refine (toFrame_any f _).mono ?_; rintro e w1 ⟨rfl, hb1⟩; replace bf := bf.below hb1 bf.lt; replace h0 := grown_below h0 hb1 h0.size; clear hb1) | (go_at_call 21; refine (specCountDots_any f hf _).mono ?_; rintro e w1 ⟨rfl, hb1⟩; replace bf := bf.below hb1 bf.lt; replace h0 := grown_below h0 hb1 h0.size; clear hb1) | (go_at_call 22; refine (implCountDots_any f hf _).mono ?_; rintro e w1 ⟨rfl, hb1⟩; replace bf := bf.below hb1 bf.lt; replace h0 := grown_below h0 hb1 h0.size; clear hb1))
  go_ret
  exact ⟨rfl, h0⟩
end Go.Proofs.Ytemeamamdddfnaa.wFnExactCountDots
