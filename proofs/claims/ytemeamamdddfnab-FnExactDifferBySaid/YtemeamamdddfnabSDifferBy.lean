/- spec: DifferBy. -/
import Derived.Test.YtemeamamdddfnabRows
import Derived.Test.YtemeamamdddfnabSBoth
import Derived.Test.YtemeamamdddfnabSDiffer
import Derived.Test.YtemeamamdddfnabDiff
namespace Go.Proofs.Ytemeamamdddfnab
open Go.RowKit
set_option linter.unusedVariables false
set_option maxHeartbeats 1000000 in
theorem specDifferBy_any (f g : Nat → Nat) (hf : ∀ k, f k < 65536) (hg : ∀ k, g k < 65536) (w : World) :
    Calls Try.prog 17 #[.agg (FC f), .agg (FC g)] w fun e' w' => e' = .returned (.tuple #[.int .i64 (diffV f g), .int .i64 (bothC f g)]) ∧ Below w.heap.size w w' := by
  have b1 := (Blk.new w 24 f).alloc (.cells (FC g) 24)
  have b2 := Blk.new (w.alloc (.cells (FC f) 24)) 24 g
  rw [World.size_alloc] at b2
  have h0 := ((Below.refl w.heap.size w).alloc (Nat.le_refl _) (.cells (FC f) 24)).alloc (by simp) (.cells (FC g) 24)
  have arm := fun (x : Nat) => x
  rcases bothC_cases f g with ⟨ho, ha⟩ | ⟨ho, h1, ha⟩ | ⟨ho, h1, ha⟩
  · have hv : diffV f g = 0 := by simp [diffV, ha]
    go_enter Try.func17, Try.ntmps17
    go_wp2_with (go_at_call 24; refine (both_any _ _ f g _ b1 b2).mono ?_; rintro e' w' ⟨rfl, rfl⟩)
    go_ret2
    exact ⟨by rw [hv, ha]; rfl, h0⟩
  · have hv : diffV f g = 0 := by simp [diffV, ha]
    go_enter Try.func17, Try.ntmps17
    go_wp2_with (go_at_call 24; refine (both_any _ _ f g _ b1 b2).mono ?_; rintro e' w' ⟨rfl, rfl⟩)
    go_ret2
    exact ⟨by rw [hv, ha]; rfl, h0⟩
  · have hv : diffV f g = (dots (unlikeF f g)).length := by rw [length_dots _ (unlikeF_ok ho h1)]; simp [diffV, ha]
    have HV := Lib.hid hv
    clear hv
    go_enter Try.func17, Try.ntmps17
    go_wp2_with (first | (go_at_call 24; refine (both_any _ _ f g _ b1 b2).mono ?_; rintro e' w' ⟨rfl, rfl⟩) | (go_at_call 31; refine (specDiffer_any _ _ f g hf hg _ b1 b2).mono ?_; rintro e' w1 ⟨rfl, hb1⟩; replace b1 := b1.below hb1 b1.lt; replace b2 := b2.below hb1 b2.lt; replace h0 := grown_below h0 hb1 h0.size; clear hb1))
    go_ret2
    exact ⟨by rw [HV.out, ha]; rfl, h0⟩
end Go.Proofs.Ytemeamamdddfnab
