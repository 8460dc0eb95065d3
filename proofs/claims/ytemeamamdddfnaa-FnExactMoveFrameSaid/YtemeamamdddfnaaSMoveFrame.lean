/- spec: MoveFrame. -/
import Derived.Test.YtemeamamdddfnaaRows
import Derived.Test.YtemeamamdddfnaaSMove
namespace Go.Proofs.Ytemeamamdddfnaa
open Go.RowKit
set_option linter.unusedVariables false
set_option maxHeartbeats 1000000 in
theorem specMoveFrame_any (f : Nat → Nat) (e s : Int) (hf : ∀ k, f k < 65536) (w : World) :
    Calls Try.prog 28 #[.agg (FC f), .int .i64 e, .int .i64 s] w fun e' w' => e' = .returned (.tuple #[.agg (FC (ifC (wayC f e s) (movedS f e s))), .int .i64 (wayC f e s)]) ∧ Below w.heap.size w w' := by
  have b1 := (Blk.new w 27 f).alloc (.cells (FC zeroF) 27)
  have b2 := Blk.new (w.alloc (.cells (FC f) 27)) 27 zeroF
  rw [World.size_alloc] at b2
  have h0 := ((Below.refl w.heap.size w).alloc (Nat.le_refl _) (.cells (FC f) 27)).alloc (by simp) (.cells (FC zeroF) 27)
  rw [FC_zero] at b1 b2 h0
  rcases wayC_cases f e s with ⟨ho, ha⟩ | ⟨ho, h1, ha⟩ | ⟨ho, h1, h2, ha⟩ | ⟨ho, h1, h2, ha⟩
  · have hv : ifC 1 (movedS f e s) = zeroF := by simp [ifC]
    go_enter Try.func28, Try.ntmps28
    go_wp2_with fail
    generalize ((w.alloc _).alloc _) = w1 at *
    refine (way_any _ f _ _ _ b1).mono ?_
    rintro e' w' ⟨rfl, rfl⟩
    go_wp2_with (refine wpList_store_fr (f := zeroF) rfl 27 _ _ rfl _ rfl b2 rfl (by kernel_rfl) ?_)
    exact bodyPost_ret_fr2 (p := 6) (u := 7) (ty := 27) (e := 24) rfl rfl (b2.setRow _) Try.underlying27 (by kernel_rfl) rfl ⟨by rw [ha, hv]; rfl, below_setRow h0 (by omega) _⟩
  · have hv : ifC 2 (movedS f e s) = zeroF := by simp [ifC]
    go_enter Try.func28, Try.ntmps28
    go_wp2_with fail
    generalize ((w.alloc _).alloc _) = w1 at *
    refine (way_any _ f _ _ _ b1).mono ?_
    rintro e' w' ⟨rfl, rfl⟩
    go_wp2_with (refine wpList_store_fr (f := zeroF) rfl 27 _ _ rfl _ rfl b2 rfl (by kernel_rfl) ?_)
    exact bodyPost_ret_fr2 (p := 6) (u := 7) (ty := 27) (e := 24) rfl rfl (b2.setRow _) Try.underlying27 (by kernel_rfl) rfl ⟨by rw [ha, hv]; rfl, below_setRow h0 (by omega) _⟩
  · have hv : ifC 2 (movedS f e s) = zeroF := by simp [ifC]
    go_enter Try.func28, Try.ntmps28
    go_wp2_with fail
    generalize ((w.alloc _).alloc _) = w1 at *
    refine (way_any _ f _ _ _ b1).mono ?_
    rintro e' w' ⟨rfl, rfl⟩
    go_wp2_with (refine wpList_store_fr (f := zeroF) rfl 27 _ _ rfl _ rfl b2 rfl (by kernel_rfl) ?_)
    exact bodyPost_ret_fr2 (p := 6) (u := 7) (ty := 27) (e := 24) rfl rfl (b2.setRow _) Try.underlying27 (by kernel_rfl) rfl ⟨by rw [ha, hv]; rfl, below_setRow h0 (by omega) _⟩
  · have hv : ifC 0 (movedS f e s) = movedS f e s := by simp [ifC]
    have i1 := inB_iff.1 h1
    have i2 := inB_iff.1 h2
    go_enter Try.func28, Try.ntmps28
    go_wp2_with fail
    generalize ((w.alloc _).alloc _) = w1 at *
    refine (way_any _ f _ _ _ b1).mono ?_
    rintro e' w' ⟨rfl, rfl⟩
    go_wp2_with (first | (go_at_call 52; refine (specMoved_any _ f e s (by omega) (by omega) (by omega) (by omega) _ hf b1).mono ?_; rintro e' w2 ⟨rfl, hb1⟩; replace b2 := b2.below hb1 b2.lt; replace h0 := grown_below h0 hb1 h0.size) | (refine wpList_store_fr rfl 27 _ _ rfl _ rfl b2 rfl (by kernel_rfl) ?_))
    exact bodyPost_ret_fr2 (p := 6) (u := 7) (ty := 27) (e := 24) rfl rfl (b2.setRow _) Try.underlying27 (by kernel_rfl) rfl ⟨by rw [ha, hv]; rfl, below_setRow h0 (by omega) _⟩
theorem moveFrames_eq (f : Nat → Nat) (e s : Int) : FC (ifC (wayC f e s) (movedS f e s)) = FC (ifC (wayC f e s) (movedI f e s 12)) := by
  rcases wayC_cases f e s with ⟨ho, ha⟩ | ⟨ho, h1, ha⟩ | ⟨ho, h1, h2, ha⟩ | ⟨ho, h1, h2, ha⟩
  · rw [ha]; rfl
  · rw [ha]; rfl
  · rw [ha]; rfl
  · rw [ha]; exact FC_ext (moved_eq ho e s)
end Go.Proofs.Ytemeamamdddfnaa
