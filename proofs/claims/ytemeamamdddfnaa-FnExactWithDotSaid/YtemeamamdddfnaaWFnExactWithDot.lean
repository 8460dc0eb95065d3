/- The walk of the law FnExactWithDot: it returns true and writes nothing that was there. -/
import Derived.Test.YtemeamamdddfnaaRows
import Derived.Test.YtemeamamdddfnaaL1
import Derived.Test.YtemeamamdddfnaaWithDot
namespace Go.Proofs.Ytemeamamdddfnaa.wFnExactWithDot
open Go.RowKit
set_option linter.unusedVariables false
set_option maxHeartbeats 1000000 in
theorem walk (f : Nat → Nat) (x : Int) (y : Int) (b : Bool) (hf : ∀ k, f k < 65536) (hx : (Lit.int .i64 x).wf = true) (hy : (Lit.int .i64 y).wf = true) (w : World) :
    Calls Try.prog 6 #[.agg (FC f), .int .i64 x, .int .i64 y, .bool b] w fun e w' => e = .returned (.bool true) ∧ Below w.heap.size w w' := by
  have heq := eqF_refl (withV f x y b)
  have bf := Blk.new w 25 f
  have h0 := ((Below.refl w.heap.size w).alloc (Nat.le_refl _) (.cells (FC f) 25))
  go_enter Try.func6, Try.ntmps6
  go_wp2_with (first | (refine wpList_load_fr rfl 25 24 _ rfl _ rfl (by assumption) Try.underlying25 (by kernel_rfl) ?_) | (refine wpList_load_fr rfl 27 24 _ rfl _ rfl (by assumption) Try.underlying27 (by kernel_rfl) ?_) | (refine wpList_store_new (f0 := zeroF) (f := withV f x y b) rfl 27 _ _ rfl rfl rfl (by kernel_rfl) ?_; (first | (replace bw := bw.alloc (.cells (FC (withV f x y b)) 27); have bg := Blk.new w1 27 (withV f x y b)) | (have bw := Blk.new w1 27 (withV f x y b))); replace bf := bf.alloc (.cells (FC (withV f x y b)) 27); replace h0 := h0.alloc h0.size (.cells (FC (withV f x y b)) 27); generalize w1.alloc (.cells (FC (withV f x y b)) 27) = w2 at *) | (go_at_call 14; refine (toFrame_any f _).mono ?_; rintro e w1 ⟨rfl, hb1⟩; replace bf := bf.below hb1 bf.lt; (try (replace bw := bw.below hb1 bw.lt)); (try (replace bg := bg.below hb1 bg.lt)); replace h0 := grown_below h0 hb1 h0.size; clear hb1) | (go_at_call 18; refine (specWithDot_any f x y b hf _).mono ?_; rintro e w1 ⟨rfl, hb1⟩; replace bf := bf.below hb1 bf.lt; (try (replace bw := bw.below hb1 bw.lt)); (try (replace bg := bg.below hb1 bg.lt)); replace h0 := grown_below h0 hb1 h0.size; clear hb1) | (go_at_call 19; refine (implWithDot_any f x y b hf _).mono ?_; rintro e w1 ⟨rfl, hb1⟩; replace bf := bf.below hb1 bf.lt; (try (replace bw := bw.below hb1 bw.lt)); (try (replace bg := bg.below hb1 bg.lt)); replace h0 := grown_below h0 hb1 h0.size; clear hb1) | (go_at_call 20; refine (eqFrame_any _ _ _).mono ?_; rintro e w1 ⟨rfl, hb1⟩; replace bf := bf.below hb1 bf.lt; (try (replace bw := bw.below hb1 bw.lt)); (try (replace bg := bg.below hb1 bg.lt)); replace h0 := grown_below h0 hb1 h0.size; clear hb1))
  go_ret
  exact ⟨rfl, h0⟩
end Go.Proofs.Ytemeamamdddfnaa.wFnExactWithDot
