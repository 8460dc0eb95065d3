/- impl: MeetFrames. -/
import Derived.Test.YtemeamamdddfnabRows
import Derived.Test.YtemeamamdddfnabIBoth
import Derived.Test.YtemeamamdddfnabIMeet
namespace Go.Proofs.Ytemeamamdddfnab
open Go.RowKit
set_option linter.unusedVariables false
set_option maxHeartbeats 1000000 in
theorem implMeetFrames_any (f g : Nat → Nat) (hf : ∀ k, f k < 65536) (hg : ∀ k, g k < 65536) (w : World) :
    Calls Try.prog 14 #[.agg (FC f), .agg (FC g)] w fun e' w' => e' = .returned (.tuple #[.agg (FC (ifC (bothC f g) (meetF f g))), .int .i64 (bothC f g)]) ∧ Below w.heap.size w w' := by
  have b1 := ((Blk.new w 24 f).alloc (.cells (FC g) 24)).alloc (.cells (FC zeroF) 24)
  have b2 := (Blk.new (w.alloc (.cells (FC f) 24)) 24 g).alloc (.cells (FC zeroF) 24)
  have b3 := Blk.new ((w.alloc (.cells (FC f) 24)).alloc (.cells (FC g) 24)) 24 zeroF
  rw [World.size_alloc] at b2
  rw [World.size_alloc, World.size_alloc] at b3
  have h0 := (((Below.refl w.heap.size w).alloc (Nat.le_refl _) (.cells (FC f) 24)).alloc (by simp) (.cells (FC g) 24)).alloc (by simp; omega) (.cells (FC zeroF) 24)
  rw [FC_zero] at b1 b2 b3 h0
  go_enter Try.func14, Try.ntmps14
  go_wp2_with (first | (refine wpList_load_fr rfl 24 22 _ rfl _ rfl b1 Try.underlying24 (by kernel_rfl) ?_) | (refine wpList_load_fr rfl 24 22 _ rfl _ rfl b2 Try.underlying24 (by kernel_rfl) ?_) | (go_at_call 26; refine (ofBoth_any 28 f g (meetF f g) hf hg (fun _ => by kernel_rfl) (fun w => meet_any f g hf hg w) _).mono ?_; rintro e' w1 ⟨rfl, hb1⟩; replace b1 := b1.below hb1 b1.lt; replace b2 := b2.below hb1 b2.lt; replace b3 := b3.below hb1 b3.lt; replace h0 := grown_below h0 hb1 h0.size; clear hb1) | (refine wpList_store_fr rfl 24 _ _ rfl _ rfl b3 rfl (by kernel_rfl) ?_))
  exact bodyPost_ret_fr2 (p := 4) (u := 5) (ty := 24) (e := 22) rfl rfl (b3.setRow _) Try.underlying24 (by kernel_rfl) rfl ⟨rfl, below_setRow h0 (by omega) _⟩
end Go.Proofs.Ytemeamamdddfnab
