/- The walk of the law FnExactShownBy: it returns true and writes nothing that was there. -/
import Derived.Test.YtpmlepgnokbpaaaRows
import Derived.Test.YtpmlepgnokbpaaaLCel
import Derived.Test.YtpmlepgnokbpaaaOpenCel
import Derived.Test.YtpmlepgnokbpaaaSCel2
import Derived.Test.YtpmlepgnokbpaaaICel2
namespace Go.Proofs.Ytpmlepgnokbpaaa.wFnExactShownBy
set_option maxRecDepth 100000
open Go.RowKit
set_option linter.unusedVariables false
set_option linter.unusedSimpArgs false
set_option maxHeartbeats 2000000 in
theorem walk (i k : Nat → Nat)  (hi : ∀ y, i y < 65536) (hk : ∀ y, k y < 65536)  (w : World) :
    Calls Try.prog 9 #[.agg (CC i k)] w fun e w' => e = .returned (.bool true) ∧ Below w.heap.size w w' := by
  have a1 := CelAt.new w 25 i k
  have h0 := (Below.refl w.heap.size w).alloc (Nat.le_refl _) (.cells (CC i k) 25)
  have cS := fun w => specShownBy_any i k hi hk w
  have cI := fun w => implShownBy_any i k hi hk w
  have heq := eqF_refl (ifC (celC i k) i)
  go_enter Try.func9, Try.ntmps9
  go_wp2_with (first | (refine wpList_load_cel rfl 25 _ rfl rfl (by first | with_reducible exact a1) Try.underlying25 rfl (by kernel_rfl) ?_) | (go_at_call 16; refine (toCel_any _ _ _).mono ?_; rintro e w1 ⟨rfl, hb⟩; replace a1 := a1.below hb a1.lt; (try (replace bw := bw.below hb bw.lt)); (try (replace bg := bg.below hb bg.lt)); replace h0 := grown_below h0 hb h0.size; clear hb) | (go_at_call 33; refine (cS _).mono ?_; rintro e w1 ⟨rfl, hb⟩; replace a1 := a1.below hb a1.lt; (try (replace bw := bw.below hb bw.lt)); (try (replace bg := bg.below hb bg.lt)); replace h0 := grown_below h0 hb h0.size; clear hb) | (go_at_call 34; refine (cI _).mono ?_; rintro e w1 ⟨rfl, hb⟩; replace a1 := a1.below hb a1.lt; (try (replace bw := bw.below hb bw.lt)); (try (replace bg := bg.below hb bg.lt)); replace h0 := grown_below h0 hb h0.size; clear hb) | (refine wpList_store_new (f0 := zeroF) (f := ifC (celC i k) i) rfl 27 _ _ rfl rfl rfl (by kernel_rfl) ?_; (first | (replace bw := bw.alloc (.cells (FC (ifC (celC i k) i)) 27); have bg := Blk.new w1 27 (ifC (celC i k) i)) | (have bw := Blk.new w1 27 (ifC (celC i k) i))); replace a1 := a1.alloc (.cells (FC (ifC (celC i k) i)) 27); replace h0 := h0.alloc h0.size (.cells (FC (ifC (celC i k) i)) 27); generalize w1.alloc (.cells (FC (ifC (celC i k) i)) 27) = w2 at *) | (refine wpList_load_fr rfl 27 22 _ rfl _ rfl (by first | with_reducible exact bw | with_reducible exact bg) Try.underlying27 (by kernel_rfl) ?_) | (go_at_call 35; refine (eqFrame_any _ _ _).mono ?_; rintro e w1 ⟨rfl, hb⟩; replace h0 := grown_below h0 hb h0.size; clear hb))
  go_ret
  exact ⟨rfl, h0⟩
end Go.Proofs.Ytpmlepgnokbpaaa.wFnExactShownBy
