/- impl: ShrinkFrame. -/
import Derived.Test.YthkpefdjhdemeaaDoorRows
import Derived.Test.YthkpefdjhdemeaaDoorIChange
import Derived.Test.YthkpefdjhdemeaaDoorIShrunk
namespace Go.Proofs.YthkpefdjhdemeaaDoor
set_option maxRecDepth 100000
open Go.RowKit
set_option linter.unusedVariables false
set_option maxHeartbeats 1000000 in
theorem implShrinkFrame_any (f : Nat → Nat) (hf : ∀ k, f k < 65536) (w : World) (hT : Tab w 0 BT) :
    Calls Tryd.prog 34 #[.agg (FC f)] w fun e' w' => e' = .returned (.tuple #[.agg (FC (ifC (okC f) (shrI f))), .int .i64 (okC f)]) ∧ Below w.heap.size w w' := by
  have b1 := (Blk.new w 27 f).alloc (.cells (FC zeroF) 27)
  have b2 := Blk.new (w.alloc (.cells (FC f) 27)) 27 zeroF
  rw [World.size_alloc] at b2
  have h0 := ((Below.refl w.heap.size w).alloc (Nat.le_refl _) (.cells (FC f) 27)).alloc (by simp) (.cells (FC zeroF) 27)
  rw [FC_zero] at b1 b2 h0
  have HT := Lib.hid ((hT.alloc (.cells (FC f) 27)).alloc (.cells (FC zeroF) 27))
  rw [FC_zero] at HT; clear hT
  go_enter Tryd.func34, Tryd.ntmps34
  go_wp2_with (first | (refine wpList_load_fr rfl 27 22 _ rfl _ rfl b1 Tryd.underlying27 (by kernel_rfl) ?_) | (go_at_call 69; refine (change_shrunk f (shrI f) hf _ (fun ho w1 hw1 => shrunk_any f ho hf w1 ((HT.out).below hw1 (Tab.lt HT.out)))).mono ?_; rintro e' w1 ⟨rfl, hb1⟩; replace b1 := b1.below hb1 b1.lt; replace b2 := b2.below hb1 b2.lt; replace h0 := grown_below h0 hb1 h0.size; clear hb1) | (refine wpList_store_fr rfl 27 _ _ rfl _ rfl b2 rfl (by kernel_rfl) ?_))
  exact bodyPost_ret_fr2 (p := 2) (u := 3) (ty := 27) (e := 22) rfl rfl (b2.setRow _) Tryd.underlying27 (by kernel_rfl) rfl ⟨rfl, below_setRow h0 (by omega) _⟩
end Go.Proofs.YthkpefdjhdemeaaDoor
