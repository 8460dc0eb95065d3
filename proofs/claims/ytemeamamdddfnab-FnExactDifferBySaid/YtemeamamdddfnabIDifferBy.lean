/- impl: DifferBy. -/
import Derived.Test.YtemeamamdddfnabRows
import Derived.Test.YtemeamamdddfnabIBoth
import Derived.Test.YtemeamamdddfnabIUnlike
import Derived.Test.YtemeamamdddfnabDiff
namespace Go.Proofs.Ytemeamamdddfnab
open Go.RowKit
set_option linter.unusedVariables false
set_option maxHeartbeats 1000000 in
theorem implDifferBy_any (f g : Nat → Nat) (hf : ∀ k, f k < 65536) (hg : ∀ k, g k < 65536) (w : World) :
    Calls Try.prog 18 #[.agg (FC f), .agg (FC g)] w fun e' w' => e' = .returned (.tuple #[.int .i64 (diffV f g), .int .i64 (bothC f g)]) ∧ Below w.heap.size w w' := by
  have b1 := (Blk.new w 24 f).alloc (.cells (FC g) 24)
  have b2 := Blk.new (w.alloc (.cells (FC f) 24)) 24 g
  rw [World.size_alloc] at b2
  have h0 := ((Below.refl w.heap.size w).alloc (Nat.le_refl _) (.cells (FC f) 24)).alloc (by simp) (.cells (FC g) 24)
  have hr : ∀ k, ifC (bothC f g) (unlikeF f g) k < 65536 := fun k => by
    unfold ifC; split
    · exact unlikeF_lt hf hg k
    · exact zeroF_lt k
  have hv : diffV f g = ((popSum (ifC (bothC f g) (unlikeF f g)) 12 : Nat) : Int) := by
    unfold diffV ifC
    split
    · rfl
    · rfl
  have HV := Lib.hid hv
  clear hv
  go_enter Try.func18, Try.ntmps18
  go_wp2_with (first | (refine wpList_load_fr rfl 24 22 _ rfl _ rfl b1 Try.underlying24 (by kernel_rfl) ?_) | (refine wpList_load_fr rfl 24 22 _ rfl _ rfl b2 Try.underlying24 (by kernel_rfl) ?_) | (go_at_call 26; refine (ofBoth_any 32 f g (unlikeF f g) hf hg (fun _ => by kernel_rfl) (fun w => unlike_any f g hf hg w) _).mono ?_; rintro e' w1 ⟨rfl, hb1⟩; replace b1 := b1.below hb1 b1.lt; replace b2 := b2.below hb1 b2.lt; replace h0 := grown_below h0 hb1 h0.size; clear hb1) | (refine wpList_store_new (f0 := zeroF) rfl 24 _ _ rfl rfl rfl (by kernel_rfl) ?_; have bw := Blk.new w1 24 (ifC (bothC f g) (unlikeF f g)); replace h0 := h0.alloc h0.size (.cells (FC (ifC (bothC f g) (unlikeF f g))) 24); generalize w1.alloc (.cells (FC (ifC (bothC f g) (unlikeF f g))) 24) = w2 at bw h0 ⊢) | (refine wpList_load_fr rfl 24 22 _ rfl _ rfl bw Try.underlying24 (by kernel_rfl) ?_) | (go_at_call 33; refine (count_any _ hr _).mono ?_; rintro e' w3 ⟨rfl, hb1⟩; replace h0 := grown_below h0 hb1 h0.size; clear hb1))
  go_ret2
  exact ⟨by rw [HV.out]; rfl, h0⟩
end Go.Proofs.Ytemeamamdddfnab
