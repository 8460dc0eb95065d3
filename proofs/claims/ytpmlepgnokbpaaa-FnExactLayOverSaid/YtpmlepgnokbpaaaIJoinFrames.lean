/- impl: JoinFrames. -/
import Derived.Test.YtpmlepgnokbpaaaRows
import Derived.Test.YtpmlepgnokbpaaaIBoth
import Derived.Test.YtpmlepgnokbpaaaIJoin
namespace Go.Proofs.Ytpmlepgnokbpaaa
set_option maxRecDepth 100000
open Go.RowKit
set_option linter.unusedVariables false
set_option maxHeartbeats 1000000 in
theorem implJoinFrames_any (f g : Nat → Nat) (hf : ∀ k, f k < 65536) (hg : ∀ k, g k < 65536) (w : World) :
    Calls Try.prog 65 #[.agg (FC f), .agg (FC g)] w fun e' w' => e' = .returned (.tuple #[.agg (FC (ifC (bothC f g) (joinF f g))), .int .i64 (bothC f g)]) ∧ Below w.heap.size w w' := by
  have b1 := ((Blk.new w 27 f).alloc (.cells (FC g) 27)).alloc (.cells (FC zeroF) 27)
  have b2 := (Blk.new (w.alloc (.cells (FC f) 27)) 27 g).alloc (.cells (FC zeroF) 27)
  have b3 := Blk.new ((w.alloc (.cells (FC f) 27)).alloc (.cells (FC g) 27)) 27 zeroF
  rw [World.size_alloc] at b2
  rw [World.size_alloc, World.size_alloc] at b3
  have h0 := (((Below.refl w.heap.size w).alloc (Nat.le_refl _) (.cells (FC f) 27)).alloc (by simp) (.cells (FC g) 27)).alloc (by simp; omega) (.cells (FC zeroF) 27)
  rw [FC_zero] at b1 b2 b3 h0
  go_enter Try.func65, Try.ntmps65
  go_wp2_with (first | (refine wpList_load_fr rfl 27 22 _ rfl _ rfl b1 Try.underlying27 (by kernel_rfl) ?_) | (refine wpList_load_fr rfl 27 22 _ rfl _ rfl b2 Try.underlying27 (by kernel_rfl) ?_) | (go_at_call 98; refine (ofBoth_any 99 f g (joinF f g) hf hg (fun _ => by kernel_rfl) (fun w => join_any f g hf hg w) _).mono ?_; rintro e' w1 ⟨rfl, hb1⟩; replace b1 := b1.below hb1 b1.lt; replace b2 := b2.below hb1 b2.lt; replace b3 := b3.below hb1 b3.lt; replace h0 := grown_below h0 hb1 h0.size; clear hb1) | (refine wpList_store_fr rfl 27 _ _ rfl _ rfl b3 rfl (by kernel_rfl) ?_))
  exact bodyPost_ret_fr2 (p := 4) (u := 5) (ty := 27) (e := 22) rfl rfl (b3.setRow _) Try.underlying27 (by kernel_rfl) rfl ⟨rfl, below_setRow h0 (by omega) _⟩
end Go.Proofs.Ytpmlepgnokbpaaa
