/- The walk of the law FnExactInvertFrame: it returns true and writes nothing that was there. -/
import Derived.Test.YtemeamamdddfnabDoorRows
import Derived.Test.YtemeamamdddfnabDoorL1
import Derived.Test.YtemeamamdddfnabDoorSInvert
import Derived.Test.YtemeamamdddfnabDoorIInvertFrame
namespace Go.Proofs.YtemeamamdddfnabDoor.wFnExactInvertFrame
open Go.RowKit
set_option linter.unusedVariables false
set_option maxHeartbeats 1000000 in
theorem walk (f : Nat → Nat) (hf : ∀ k, f k < 65536) (w : World) :
    Calls Tryd.prog 3 #[.agg (FC f)] w fun e w' => e = .returned (.bool true) ∧ Below w.heap.size w w' := by
  have heq := eqF_refl (ifC (okC f) (invF f))
  have bf := Blk.new w 23 f
  have h0 := ((Below.refl w.heap.size w).alloc (Nat.le_refl _) (.cells (FC f) 23))
  go_enter Tryd.func3, Tryd.ntmps3
  go_wp2_with (first | (refine wpList_load_fr rfl 23 22 _ rfl _ rfl (by assumption) Tryd.underlying23 (by kernel_rfl) ?_) | (refine wpList_load_fr rfl 24 22 _ rfl _ rfl (by assumption) Tryd.underlying24 (by kernel_rfl) ?_) | (refine wpList_store_new (f0 := zeroF) (f := ifC (okC f) (invF f)) rfl 24 _ _ rfl rfl rfl (by kernel_rfl) ?_; (first | (replace bw := bw.alloc (.cells (FC (ifC (okC f) (invF f))) 24); have bg := Blk.new w1 24 (ifC (okC f) (invF f))) | (have bw := Blk.new w1 24 (ifC (okC f) (invF f)))); replace bf := bf.alloc (.cells (FC (ifC (okC f) (invF f))) 24); replace h0 := h0.alloc h0.size (.cells (FC (ifC (okC f) (invF f))) 24); generalize w1.alloc (.cells (FC (ifC (okC f) (invF f))) 24) = w2 at *) | (go_at_call 10; refine (toFrame_any f _).mono ?_; rintro e w1 ⟨rfl, hb1⟩; replace bf := bf.below hb1 bf.lt; (try (replace bw := bw.below hb1 bw.lt)); (try (replace bg := bg.below hb1 bg.lt)); replace h0 := grown_below h0 hb1 h0.size; clear hb1) | (go_at_call 9; refine (specInvertFrame_any f hf _).mono ?_; rintro e w1 ⟨rfl, hb1⟩; replace bf := bf.below hb1 bf.lt; (try (replace bw := bw.below hb1 bw.lt)); (try (replace bg := bg.below hb1 bg.lt)); replace h0 := grown_below h0 hb1 h0.size; clear hb1) | (go_at_call 11; refine (implInvertFrame_any f hf _).mono ?_; rintro e w1 ⟨rfl, hb1⟩; replace bf := bf.below hb1 bf.lt; (try (replace bw := bw.below hb1 bw.lt)); (try (replace bg := bg.below hb1 bg.lt)); replace h0 := grown_below h0 hb1 h0.size; clear hb1) | (go_at_call 12; refine (eqFrame_any _ _ _).mono ?_; rintro e w1 ⟨rfl, hb1⟩; replace bf := bf.below hb1 bf.lt; (try (replace bw := bw.below hb1 bw.lt)); (try (replace bg := bg.below hb1 bg.lt)); replace h0 := grown_below h0 hb1 h0.size; clear hb1))
  go_ret
  exact ⟨rfl, h0⟩
end Go.Proofs.YtemeamamdddfnabDoor.wFnExactInvertFrame
