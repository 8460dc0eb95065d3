/- The walk of the law FnExactShrinkFrame: it returns true and writes nothing that was there. -/
import Derived.Test.YthkpefdjhdemeaaDoorRows
import Derived.Test.YthkpefdjhdemeaaDoorL1
import Derived.Test.YthkpefdjhdemeaaDoorSShrink
import Derived.Test.YthkpefdjhdemeaaDoorIShrinkFrame
namespace Go.Proofs.YthkpefdjhdemeaaDoor.wFnExactShrinkFrame
set_option maxRecDepth 100000
open Go.RowKit
set_option linter.unusedVariables false
set_option maxHeartbeats 1000000 in
theorem walk (f : Nat → Nat) (hf : ∀ k, f k < 65536) (w : World) (hT : Tab w 0 BT) :
    Calls Tryd.prog 9 #[.agg (FC f)] w fun e w' => e = .returned (.bool true) ∧ Below w.heap.size w w' := by
  have heq := eqF_refl (ifC (okC f) (shrI f))
  have specM := fun w => specShrinkFrame_any f hf w
  rw [shrinkFrames_eq] at specM
  have bf := Blk.new w 23 f
  have h0 := ((Below.refl w.heap.size w).alloc (Nat.le_refl _) (.cells (FC f) 23))
  replace hT := Tab.alloc hT (.cells (FC f) 23)
  have HhT := Lib.hid hT
  clear hT
  go_enter Tryd.func9, Tryd.ntmps9
  go_wp2_with (first | (refine wpList_load_fr rfl 23 22 _ rfl _ rfl (by assumption) Tryd.underlying23 (by kernel_rfl) ?_) | (refine wpList_load_fr rfl 27 22 _ rfl _ rfl (by assumption) Tryd.underlying27 (by kernel_rfl) ?_) | (refine wpList_store_new (f0 := zeroF) (f := ifC (okC f) (shrI f)) rfl 27 _ _ rfl rfl rfl (by kernel_rfl) ?_; (first | (replace bw := bw.alloc (.cells (FC (ifC (okC f) (shrI f))) 27); have bg := Blk.new w1 27 (ifC (okC f) (shrI f))) | (have bw := Blk.new w1 27 (ifC (okC f) (shrI f)))); replace bf := bf.alloc (.cells (FC (ifC (okC f) (shrI f))) 27); replace HhT := Lib.hid (Tab.alloc HhT.out (.cells (FC (ifC (okC f) (shrI f))) 27)); replace h0 := h0.alloc h0.size (.cells (FC (ifC (okC f) (shrI f))) 27); generalize w1.alloc (.cells (FC (ifC (okC f) (shrI f))) 27) = w2 at *) | (go_at_call 13; refine (toFrame_any f _).mono ?_; rintro e w1 ⟨rfl, hb1⟩; replace bf := bf.below hb1 bf.lt; replace HhT := Lib.hid (Tab.below HhT.out hb1 (Tab.lt HhT.out)); (try (replace bw := bw.below hb1 bw.lt)); (try (replace bg := bg.below hb1 bg.lt)); replace h0 := grown_below h0 hb1 h0.size; clear hb1) | (go_at_call 33; refine (specM _).mono ?_; rintro e w1 ⟨rfl, hb1⟩; replace bf := bf.below hb1 bf.lt; replace HhT := Lib.hid (Tab.below HhT.out hb1 (Tab.lt HhT.out)); (try (replace bw := bw.below hb1 bw.lt)); (try (replace bg := bg.below hb1 bg.lt)); replace h0 := grown_below h0 hb1 h0.size; clear hb1) | (go_at_call 34; refine (implShrinkFrame_any f hf _ HhT.out).mono ?_; rintro e w1 ⟨rfl, hb1⟩; replace bf := bf.below hb1 bf.lt; replace HhT := Lib.hid (Tab.below HhT.out hb1 (Tab.lt HhT.out)); (try (replace bw := bw.below hb1 bw.lt)); (try (replace bg := bg.below hb1 bg.lt)); replace h0 := grown_below h0 hb1 h0.size; clear hb1) | (go_at_call 20; refine (eqFrame_any _ _ _).mono ?_; rintro e w1 ⟨rfl, hb1⟩; replace bf := bf.below hb1 bf.lt; replace HhT := Lib.hid (Tab.below HhT.out hb1 (Tab.lt HhT.out)); (try (replace bw := bw.below hb1 bw.lt)); (try (replace bg := bg.below hb1 bg.lt)); replace h0 := grown_below h0 hb1 h0.size; clear hb1))
  go_ret
  exact ⟨rfl, h0⟩
end Go.Proofs.YthkpefdjhdemeaaDoor.wFnExactShrinkFrame
