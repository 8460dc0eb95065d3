/- The walk of the law FnExactMoveCel: it returns true and writes nothing that was there. -/
import Derived.Test.YtpmlepgnokbpaaaRows
import Derived.Test.YtpmlepgnokbpaaaLCel
import Derived.Test.YtpmlepgnokbpaaaOpenCel
import Derived.Test.YtpmlepgnokbpaaaSCel2
import Derived.Test.YtpmlepgnokbpaaaICel2
namespace Go.Proofs.Ytpmlepgnokbpaaa.wFnExactMoveCel
set_option maxRecDepth 100000
open Go.RowKit
set_option linter.unusedVariables false
set_option linter.unusedSimpArgs false
set_option maxHeartbeats 2000000 in
theorem walk (i k : Nat → Nat) (e : Int) (s : Int) (hi : ∀ y, i y < 65536) (hk : ∀ y, k y < 65536) (he : (Lit.int .i64 e).wf = true) (hs : (Lit.int .i64 s).wf = true) (w : World) :
    Calls Try.prog 7 #[.agg (CC i k), .int .i64 e, .int .i64 s] w fun e w' => e = .returned (.bool true) ∧ Below w.heap.size w w' := by
  have a1 := CelAt.new w 25 i k
  have h0 := (Below.refl w.heap.size w).alloc (Nat.le_refl _) (.cells (CC i k) 25)
  have cS := fun w => specMoveCel_any i k e s hi hk w
  have cI := fun w => implMoveCel_any i k e s hi hk w
  go_enter Try.func7, Try.ntmps7
  go_wp2_with (first | (refine wpList_load_cel rfl 25 _ rfl rfl (by first | with_reducible exact a1) Try.underlying25 rfl (by kernel_rfl) ?_) | (go_at_call 16; refine (toCel_any _ _ _).mono ?_; rintro e w1 ⟨rfl, hb⟩; replace a1 := a1.below hb a1.lt; (try (replace bw := bw.below hb bw.lt)); (try (replace bg := bg.below hb bg.lt)); replace h0 := grown_below h0 hb h0.size; clear hb) | (go_at_call 29; refine (cS _).mono ?_; rintro e w1 ⟨rfl, hb⟩; replace a1 := a1.below hb a1.lt; (try (replace bw := bw.below hb bw.lt)); (try (replace bg := bg.below hb bg.lt)); replace h0 := grown_below h0 hb h0.size; clear hb) | (go_at_call 30; refine (cI _).mono ?_; rintro e w1 ⟨rfl, hb⟩; replace a1 := a1.below hb a1.lt; (try (replace bw := bw.below hb bw.lt)); (try (replace bg := bg.below hb bg.lt)); replace h0 := grown_below h0 hb h0.size; clear hb) | (refine wpList_store_celNew (i0 := zeroF) (k0 := zeroF) (i := ifC (mvcC i k e s) (movedI i e s 12)) (k := ifC (mvcC i k e s) (movedI k e s 12)) rfl 29 _ _ rfl rfl rfl (by kernel_rfl) ?_; (first | (replace bw := bw.alloc (.cells (CC (ifC (mvcC i k e s) (movedI i e s 12)) (ifC (mvcC i k e s) (movedI k e s 12))) 29); have bg := CelAt.new w1 29 (ifC (mvcC i k e s) (movedI i e s 12)) (ifC (mvcC i k e s) (movedI k e s 12))) | (have bw := CelAt.new w1 29 (ifC (mvcC i k e s) (movedI i e s 12)) (ifC (mvcC i k e s) (movedI k e s 12)))); replace a1 := a1.alloc (.cells (CC (ifC (mvcC i k e s) (movedI i e s 12)) (ifC (mvcC i k e s) (movedI k e s 12))) 29); replace h0 := h0.alloc h0.size (.cells (CC (ifC (mvcC i k e s) (movedI i e s 12)) (ifC (mvcC i k e s) (movedI k e s 12))) 29); generalize w1.alloc (.cells (CC (ifC (mvcC i k e s) (movedI i e s 12)) (ifC (mvcC i k e s) (movedI k e s 12))) 29) = w2 at *) | (refine wpList_load_cel rfl 29 _ rfl rfl (by first | with_reducible exact bw | with_reducible exact bg) Try.underlying29 rfl (by kernel_rfl) ?_) | (go_at_call 28; refine (eqCel_same _ _ _).mono ?_; rintro e w1 ⟨rfl, hb⟩; replace h0 := grown_below h0 hb h0.size; clear hb))
  go_ret
  exact ⟨rfl, h0⟩
end Go.Proofs.Ytpmlepgnokbpaaa.wFnExactMoveCel
