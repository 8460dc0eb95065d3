/- The walk of the law FnExactTurnFrame: it returns true and writes nothing that was there. -/
import Derived.Test.YtennmnkjdchbhacDoorRows
import Derived.Test.YtennmnkjdchbhacDoorL1
import Derived.Test.YtennmnkjdchbhacDoorSTurnFrame
import Derived.Test.YtennmnkjdchbhacDoorITurnFrame
namespace Go.Proofs.YtennmnkjdchbhacDoor.wFnExactTurnFrame
set_option maxRecDepth 100000
open Go.RowKit
set_option linter.unusedVariables false
set_option maxHeartbeats 1000000 in
theorem walk (f : Nat → Nat) (hf : ∀ k, f k < 65536) (w : World) (hD : Tab w 0 (DBz.map fun z => Value.int .u8 z).toArray) :
    Calls Tryd.prog 5 #[.agg (FC f)] w fun e w' => e = .returned (.bool true) ∧ Below w.heap.size w w' := by
  have heq := eqF_refl (ifC (okC f) (turnS f))
  have bf := Blk.new w 29 f
  have h0 := ((Below.refl w.heap.size w).alloc (Nat.le_refl _) (.cells (FC f) 29))
  replace hD := Tab.alloc hD (.cells (FC f) 29)
  have HhD := Lib.hid hD
  clear hD
  go_enter Tryd.func5, Tryd.ntmps5
  go_wp2_with (first | (refine wpList_load_fr rfl 29 28 _ rfl _ rfl (by assumption) Tryd.underlying29 (by kernel_rfl) ?_) | (refine wpList_load_fr rfl 33 28 _ rfl _ rfl (by assumption) Tryd.underlying33 (by kernel_rfl) ?_) | (refine wpList_store_new (f0 := zeroF) (f := ifC (okC f) (turnS f)) rfl 33 _ _ rfl rfl rfl (by kernel_rfl) ?_; (first | (replace bw := bw.alloc (.cells (FC (ifC (okC f) (turnS f))) 33); have bg := Blk.new w1 33 (ifC (okC f) (turnS f))) | (have bw := Blk.new w1 33 (ifC (okC f) (turnS f)))); replace bf := bf.alloc (.cells (FC (ifC (okC f) (turnS f))) 33); replace HhD := Lib.hid (Tab.alloc HhD.out (.cells (FC (ifC (okC f) (turnS f))) 33)); replace h0 := h0.alloc h0.size (.cells (FC (ifC (okC f) (turnS f))) 33); generalize w1.alloc (.cells (FC (ifC (okC f) (turnS f))) 33) = w2 at *) | (go_at_call 14; refine (toFrame_any f _).mono ?_; rintro e w1 ⟨rfl, hb1⟩; replace bf := bf.below hb1 bf.lt; replace HhD := Lib.hid (Tab.below HhD.out hb1 (Tab.lt HhD.out)); (try (replace bw := bw.below hb1 bw.lt)); (try (replace bg := bg.below hb1 bg.lt)); replace h0 := grown_below h0 hb1 h0.size; clear hb1) | (go_at_call 19; refine (specTurnFrame_any f hf _).mono ?_; rintro e w1 ⟨rfl, hb1⟩; replace bf := bf.below hb1 bf.lt; replace HhD := Lib.hid (Tab.below HhD.out hb1 (Tab.lt HhD.out)); (try (replace bw := bw.below hb1 bw.lt)); (try (replace bg := bg.below hb1 bg.lt)); replace h0 := grown_below h0 hb1 h0.size; clear hb1) | (go_at_call 20; refine (implTurnFrame_any f hf _ HhD.out).mono ?_; rintro e w1 ⟨rfl, hb1⟩; replace bf := bf.below hb1 bf.lt; replace HhD := Lib.hid (Tab.below HhD.out hb1 (Tab.lt HhD.out)); (try (replace bw := bw.below hb1 bw.lt)); (try (replace bg := bg.below hb1 bg.lt)); replace h0 := grown_below h0 hb1 h0.size; clear hb1) | (go_at_call 21; refine (eqFrame_any _ _ _).mono ?_; rintro e w1 ⟨rfl, hb1⟩; replace bf := bf.below hb1 bf.lt; replace HhD := Lib.hid (Tab.below HhD.out hb1 (Tab.lt HhD.out)); (try (replace bw := bw.below hb1 bw.lt)); (try (replace bg := bg.below hb1 bg.lt)); replace h0 := grown_below h0 hb1 h0.size; clear hb1))
  go_ret
  exact ⟨rfl, h0⟩
end Go.Proofs.YtennmnkjdchbhacDoor.wFnExactTurnFrame
