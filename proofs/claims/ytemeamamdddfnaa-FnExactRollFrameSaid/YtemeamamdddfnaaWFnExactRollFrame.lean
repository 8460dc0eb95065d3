/- The walk of the law FnExactRollFrame: it returns true and writes nothing that was there. -/
import Derived.Test.YtemeamamdddfnaaRows
import Derived.Test.YtemeamamdddfnaaL1
import Derived.Test.YtemeamamdddfnaaSRoll
import Derived.Test.YtemeamamdddfnaaIRoll
namespace Go.Proofs.Ytemeamamdddfnaa.wFnExactRollFrame
open Go.RowKit
set_option linter.unusedVariables false
set_option maxHeartbeats 1000000 in
theorem walk (f : Nat → Nat) (e : Int) (s : Int) (hf : ∀ k, f k < 65536) (he : (Lit.int .i64 e).wf = true) (hs : (Lit.int .i64 s).wf = true) (w : World) :
    Calls Try.prog 10 #[.agg (FC f), .int .i64 e, .int .i64 s] w fun e w' => e = .returned (.bool true) ∧ Below w.heap.size w w' := by
  have heq := eqF_refl (ifC (wayC f e s) (rolledI f e s 12))
  have specM := fun w => specRollFrame_any f e s hf w
  rw [rollFrames_eq] at specM
  have bf := Blk.new w 25 f
  have h0 := ((Below.refl w.heap.size w).alloc (Nat.le_refl _) (.cells (FC f) 25))
  go_enter Try.func10, Try.ntmps10
  go_wp2_with (first | (refine wpList_load_fr rfl 25 24 _ rfl _ rfl (by assumption) Try.underlying25 (by kernel_rfl) ?_) | (refine wpList_load_fr rfl 27 24 _ rfl _ rfl (by assumption) Try.underlying27 (by kernel_rfl) ?_) | (refine wpList_store_new (f0 := zeroF) (f := ifC (wayC f e s) (rolledI f e s 12)) rfl 27 _ _ rfl rfl rfl (by kernel_rfl) ?_; (first | (replace bw := bw.alloc (.cells (FC (ifC (wayC f e s) (rolledI f e s 12))) 27); have bg := Blk.new w1 27 (ifC (wayC f e s) (rolledI f e s 12))) | (have bw := Blk.new w1 27 (ifC (wayC f e s) (rolledI f e s 12)))); replace bf := bf.alloc (.cells (FC (ifC (wayC f e s) (rolledI f e s 12))) 27); replace h0 := h0.alloc h0.size (.cells (FC (ifC (wayC f e s) (rolledI f e s 12))) 27); generalize w1.alloc (.cells (FC (ifC (wayC f e s) (rolledI f e s 12))) 27) = w2 at *) | (go_at_call 14; refine (toFrame_any f _).mono ?_; rintro e w1 ⟨rfl, hb1⟩; replace bf := bf.below hb1 bf.lt; (try (replace bw := bw.below hb1 bw.lt)); (try (replace bg := bg.below hb1 bg.lt)); replace h0 := grown_below h0 hb1 h0.size; clear hb1) | (go_at_call 30; refine (specM _).mono ?_; rintro e w1 ⟨rfl, hb1⟩; replace bf := bf.below hb1 bf.lt; (try (replace bw := bw.below hb1 bw.lt)); (try (replace bg := bg.below hb1 bg.lt)); replace h0 := grown_below h0 hb1 h0.size; clear hb1) | (go_at_call 31; refine (implRollFrame_any f e s hf _).mono ?_; rintro e w1 ⟨rfl, hb1⟩; replace bf := bf.below hb1 bf.lt; (try (replace bw := bw.below hb1 bw.lt)); (try (replace bg := bg.below hb1 bg.lt)); replace h0 := grown_below h0 hb1 h0.size; clear hb1) | (go_at_call 20; refine (eqFrame_any _ _ _).mono ?_; rintro e w1 ⟨rfl, hb1⟩; replace bf := bf.below hb1 bf.lt; (try (replace bw := bw.below hb1 bw.lt)); (try (replace bg := bg.below hb1 bg.lt)); replace h0 := grown_below h0 hb1 h0.size; clear hb1))
  go_ret
  exact ⟨rfl, h0⟩
end Go.Proofs.Ytemeamamdddfnaa.wFnExactRollFrame
