/- The walk of the law FnExactBoxOf: it returns true and writes nothing that was there. -/
import Derived.Test.YtennmnkjdchbhacDoorRows
import Derived.Test.YtennmnkjdchbhacDoorL1
import Derived.Test.YtennmnkjdchbhacDoorSBoxOf
namespace Go.Proofs.YtennmnkjdchbhacDoor
set_option maxRecDepth 100000
open Go.RowKit
set_option maxHeartbeats 1000000 in
theorem eqBox_same (x y a b : Int) (w : World) :
    Calls Tryd.prog 24 #[.agg (BX x y a b), .agg (BX x y a b)] w fun e w' => e = .returned (.bool true) ∧ Below w.heap.size w w' := by
  have r1 := (Row.new w 43 (BX x y a b)).alloc (.cells (BX x y a b) 43)
  have r2 := Row.new (w.alloc (.cells (BX x y a b) 43)) 43 (BX x y a b)
  rw [World.size_alloc] at r2
  have h0 := ((Below.refl w.heap.size w).alloc (Nat.le_refl _) (.cells (BX x y a b) 43)).alloc (by simp) (.cells (BX x y a b) 43)
  have c0 := r1.cell 0
  have c1 := r1.cell 1
  have c2 := r1.cell 2
  have c3 := r1.cell 3
  have d0 := r2.cell 0
  have d1 := r2.cell 1
  have d2 := r2.cell 2
  have d3 := r2.cell 3
  clear r1 r2
  unfold BX at *
  go_enter Tryd.func24, Tryd.ntmps24
  go_wp2
  go_ret
  exact ⟨rfl, h0⟩
end Go.Proofs.YtennmnkjdchbhacDoor
namespace Go.Proofs.YtennmnkjdchbhacDoor.wFnExactBoxOf
open Go.RowKit
set_option linter.unusedVariables false
set_option maxHeartbeats 4000000 in
theorem walk (f : Nat → Nat) (hf : ∀ k, f k < 65536) (w : World) (hD : Tab w 0 DBC) :
    Calls Tryd.prog 6 #[.agg (FC f)] w fun e w' => e = .returned (.bool true) ∧ Below w.heap.size w w' := by
  have cS := fun w => specBoxOf_any f hf w
  have cI := fun (W : World) (hB : Below w.heap.size w W) => implBoxOf_any f hf W (hD.below hB hD.lt)
  clear hD
  obtain ⟨x, y, a, b, hv⟩ : ∃ x y a b, bxV f = BX x y a b := by
    rcases bx_cases f with ⟨_, _, h⟩ | ⟨_, _, _, h⟩ | ⟨_, _, _, h⟩
    · exact ⟨_, _, _, _, h⟩
    · exact ⟨_, _, _, _, h⟩
    · exact ⟨_, _, _, _, h.trans rfl⟩
  rw [hv] at cS cI
  clear hv
  generalize bxC f = c at *
  have b1 := Blk.new w 29 f
  have h0 := (Below.refl w.heap.size w).alloc (Nat.le_refl _) (.cells (FC f) 29)
  go_enter Tryd.func6, Tryd.ntmps6
  go_wp2_with (refine wpList_load_fr rfl 29 28 _ rfl _ rfl b1 Tryd.underlying29 (by kernel_rfl) ?_)
  generalize World.alloc _ _ = w0 at *
  refine (toFrame_any _ _).mono ?_
  rintro e w1 ⟨rfl, hb⟩
  replace b1 := b1.below hb b1.lt
  replace h0 := grown_below h0 hb h0.size
  clear hb
  go_wp2_with fail
  refine (cS _).mono ?_
  rintro e w2 ⟨rfl, hb⟩
  replace b1 := (b1.below hb b1.lt).alloc (.cells (BX x y a b) 43)
  have r1 := Row.new w2 43 (BX x y a b)
  have hl2 := r1.lt
  replace h0 := grown_below h0 hb h0.size
  replace h0 := h0.alloc h0.size (.cells (BX x y a b) 43)
  clear hb
  go_wp2_with (first | (refine wpList_store_row (cs := BX x y a b) rfl 43 _ _ rfl _ rfl (Row.new w2 43 _) rfl rfl (BX_one _ _ _ _) (by kernel_rfl) ?_; rw [setRow_new]) | (refine wpList_load_fr rfl 29 28 _ rfl _ rfl b1 Tryd.underlying29 (by kernel_rfl) ?_))
  generalize World.alloc _ _ = w3 at *
  generalize World.heap w2 = h2 at *
  refine (toFrame_any _ _).mono ?_
  rintro e w4 ⟨rfl, hb⟩
  replace b1 := b1.below hb b1.lt
  replace r1 := r1.below hb r1.lt
  replace h0 := grown_below h0 hb h0.size
  clear hb
  go_wp2_with fail
  refine (cI _ h0).mono ?_
  rintro e w5 ⟨rfl, hb⟩
  replace r1 := (r1.below hb r1.lt).alloc (.cells (BX x y a b) 43)
  have r2 := Row.new w5 43 (BX x y a b)
  replace h0 := grown_below h0 hb h0.size
  replace h0 := h0.alloc h0.size (.cells (BX x y a b) 43)
  clear hb
  go_wp2_with (first | (refine wpList_store_row (cs := BX x y a b) rfl 43 _ _ rfl _ rfl (Row.new w5 43 _) rfl rfl (BX_one _ _ _ _) (by kernel_rfl) ?_; rw [setRow_new]) | (refine wpList_load_row rfl 43 _ rfl _ rfl _ _ _ _ r2 Tryd.underlying43 rfl (by kernel_rfl) ?_) | (refine wpList_load_row rfl 43 _ rfl _ rfl _ _ _ _ r1 Tryd.underlying43 rfl (by kernel_rfl) ?_) | (go_at_call 24; refine (eqBox_same _ _ _ _ _).mono ?_; rintro e w6 ⟨rfl, hb6⟩; replace h0 := grown_below h0 hb6 h0.size))
  go_ret
  exact ⟨rfl, h0⟩
end Go.Proofs.YtennmnkjdchbhacDoor.wFnExactBoxOf
