/- impl: TurnFrame. -/
import Derived.Test.YtennmnkjdchbhacDoorRows
import Derived.Test.YtennmnkjdchbhacDoorIChange
import Derived.Test.YtennmnkjdchbhacDoorITurned
namespace Go.Proofs.YtennmnkjdchbhacDoor
set_option maxRecDepth 100000
open Go.RowKit
set_option linter.unusedVariables false
set_option maxHeartbeats 1000000 in
theorem implTurnFrame_any (f : Nat → Nat) (hf : ∀ k, f k < 65536) (w : World) (hT : Tab w 0 DBC) :
    Calls Tryd.prog 20 #[.agg (FC f)] w fun e' w' => e' = .returned (.tuple #[.agg (FC (ifC (okC f) (turnS f))), .int .i64 (okC f)]) ∧ Below w.heap.size w w' := by
  have b1 := (Blk.new w 33 f).alloc (.cells (FC zeroF) 33)
  have b2 := Blk.new (w.alloc (.cells (FC f) 33)) 33 zeroF
  rw [World.size_alloc] at b2
  have h0 := ((Below.refl w.heap.size w).alloc (Nat.le_refl _) (.cells (FC f) 33)).alloc (by simp) (.cells (FC zeroF) 33)
  rw [FC_zero] at b1 b2 h0
  have HT := Lib.hid ((hT.alloc (.cells (FC f) 33)).alloc (.cells (FC zeroF) 33))
  rw [FC_zero] at HT; clear hT
  go_enter Tryd.func20, Tryd.ntmps20
  go_wp2_with (first | (refine wpList_load_fr rfl 33 28 _ rfl _ rfl b1 Tryd.underlying33 (by kernel_rfl) ?_) | (go_at_call 39; refine (change_turned f (turnS f) hf _ (fun ho w1 hw1 => turned_any f ho hf w1 ((HT.out).below hw1 (Tab.lt HT.out)))).mono ?_; rintro e' w1 ⟨rfl, hb1⟩; replace b1 := b1.below hb1 b1.lt; replace b2 := b2.below hb1 b2.lt; replace h0 := grown_below h0 hb1 h0.size; clear hb1) | (refine wpList_store_fr rfl 33 _ _ rfl _ rfl b2 rfl (by kernel_rfl) ?_))
  exact bodyPost_ret_fr2 (p := 2) (u := 3) (ty := 33) (e := 28) rfl rfl (b2.setRow _) Tryd.underlying33 (by kernel_rfl) rfl ⟨rfl, below_setRow h0 (by omega) _⟩
end Go.Proofs.YtennmnkjdchbhacDoor
