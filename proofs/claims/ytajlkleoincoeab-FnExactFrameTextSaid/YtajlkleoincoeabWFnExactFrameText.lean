/- The walk of the law FnExactFrameText: it returns true and writes nothing that was there. -/
import Derived.Test.YtajlkleoincoeabRows
import Derived.Test.YtajlkleoincoeabL1
import Derived.Test.YtajlkleoincoeabFrT
namespace Go.Proofs.Ytajlkleoincoeab.wFnExactFrameText
set_option maxRecDepth 100000
open Go.RowKit
set_option linter.unusedVariables false
set_option maxHeartbeats 1000000 in
theorem walk (f : Nat → Nat) (hf : ∀ k, f k < 65536) (w : World) :
    Calls Try.prog 3 #[.agg (FC f)] w fun e w' => e = .returned (.bool true) ∧ Below w.heap.size w w' := by
  have bf := Blk.new w 23 f
  have h0 := ((Below.refl w.heap.size w).alloc (Nat.le_refl _) (.cells (FC f) 23))
  go_enter Try.func3, Try.ntmps3
  go_wp2_with (first | (refine wpList_load_fr rfl 23 22 _ rfl _ rfl (by assumption) Try.underlying23 (by kernel_rfl) ?_) | (go_at_call 9; refine (toFrame_any f _).mono ?_; rintro e w1 ⟨rfl, hb1⟩; replace bf := bf.below hb1 bf.lt; replace h0 := grown_below h0 hb1 h0.size; clear hb1) | (go_at_call 8; refine (specFrameText_any f hf _).mono ?_; rintro e w1 ⟨rfl, hb1⟩; replace bf := bf.below hb1 bf.lt; replace h0 := grown_below h0 hb1 h0.size; clear hb1) | (go_at_call 10; refine (implFrameText_any f hf _).mono ?_; rintro e w1 ⟨rfl, hb1⟩; replace bf := bf.below hb1 bf.lt; replace h0 := grown_below h0 hb1 h0.size; clear hb1))
  go_ret
  exact ⟨rfl, h0⟩
end Go.Proofs.Ytajlkleoincoeab.wFnExactFrameText
