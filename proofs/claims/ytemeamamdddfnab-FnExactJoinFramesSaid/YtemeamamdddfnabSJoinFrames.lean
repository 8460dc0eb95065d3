/- spec: JoinFrames. -/
import Derived.Test.YtemeamamdddfnabRows
import Derived.Test.YtemeamamdddfnabSBoth
import Derived.Test.YtemeamamdddfnabSJoin
namespace Go.Proofs.Ytemeamamdddfnab
open Go.RowKit
set_option linter.unusedVariables false
set_option maxHeartbeats 1000000 in
theorem specJoinFrames_any (f g : Nat → Nat) (hf : ∀ k, f k < 65536) (hg : ∀ k, g k < 65536) (w : World) :
    Calls Try.prog 9 #[.agg (FC f), .agg (FC g)] w fun e' w' => e' = .returned (.tuple #[.agg (FC (ifC (bothC f g) (joinF f g))), .int .i64 (bothC f g)]) ∧ Below w.heap.size w w' := by
  have b1 := ((Blk.new w 24 f).alloc (.cells (FC g) 24)).alloc (.cells (FC zeroF) 24)
  have b2 := (Blk.new (w.alloc (.cells (FC f) 24)) 24 g).alloc (.cells (FC zeroF) 24)
  have b3 := Blk.new ((w.alloc (.cells (FC f) 24)).alloc (.cells (FC g) 24)) 24 zeroF
  rw [World.size_alloc] at b2
  rw [World.size_alloc, World.size_alloc] at b3
  have h0 := (((Below.refl w.heap.size w).alloc (Nat.le_refl _) (.cells (FC f) 24)).alloc (by simp) (.cells (FC g) 24)).alloc (by simp; omega) (.cells (FC zeroF) 24)
  rw [FC_zero] at b1 b2 b3 h0
  rcases bothC_cases f g with ⟨ho, ha⟩ | ⟨ho, h1, ha⟩ | ⟨ho, h1, ha⟩
  · have hv : ifC 1 (joinF f g) = zeroF := by simp [ifC]
    go_enter Try.func9, Try.ntmps9
    go_wp2_with fail
    generalize (((w.alloc _).alloc _).alloc _) = w1 at *
    refine (both_any _ _ f g _ b1 b2).mono ?_
    rintro e' w' ⟨rfl, rfl⟩
    go_wp2_with (refine wpList_store_fr (f := zeroF) rfl 24 _ _ rfl _ rfl b3 rfl (by kernel_rfl) ?_)
    exact bodyPost_ret_fr2 (p := 4) (u := 5) (ty := 24) (e := 22) rfl rfl (b3.setRow _) Try.underlying24 (by kernel_rfl) rfl ⟨by rw [ha, hv]; rfl, below_setRow h0 (by omega) _⟩
  · have hv : ifC 1 (joinF f g) = zeroF := by simp [ifC]
    go_enter Try.func9, Try.ntmps9
    go_wp2_with fail
    generalize (((w.alloc _).alloc _).alloc _) = w1 at *
    refine (both_any _ _ f g _ b1 b2).mono ?_
    rintro e' w' ⟨rfl, rfl⟩
    go_wp2_with (refine wpList_store_fr (f := zeroF) rfl 24 _ _ rfl _ rfl b3 rfl (by kernel_rfl) ?_)
    exact bodyPost_ret_fr2 (p := 4) (u := 5) (ty := 24) (e := 22) rfl rfl (b3.setRow _) Try.underlying24 (by kernel_rfl) rfl ⟨by rw [ha, hv]; rfl, below_setRow h0 (by omega) _⟩
  · have hv : ifC 0 (joinF f g) = joinF f g := by simp [ifC]
    go_enter Try.func9, Try.ntmps9
    go_wp2_with fail
    generalize (((w.alloc _).alloc _).alloc _) = w1 at *
    refine (both_any _ _ f g _ b1 b2).mono ?_
    rintro e' w' ⟨rfl, rfl⟩
    go_wp2_with (first | (go_at_call 25; refine (specJoin_any _ _ f g hf hg _ b1 b2).mono ?_; rintro e' w2 ⟨rfl, hb1⟩; replace b1 := b1.below hb1 b1.lt; replace b2 := b2.below hb1 b2.lt; replace b3 := b3.below hb1 b3.lt; replace h0 := grown_below h0 hb1 h0.size; clear hb1) | (refine wpList_store_fr rfl 24 _ _ rfl _ rfl b3 rfl (by kernel_rfl) ?_))
    exact bodyPost_ret_fr2 (p := 4) (u := 5) (ty := 24) (e := 22) rfl rfl (b3.setRow _) Try.underlying24 (by kernel_rfl) rfl ⟨by rw [ha, hv]; rfl, below_setRow h0 (by omega) _⟩
end Go.Proofs.Ytemeamamdddfnab
