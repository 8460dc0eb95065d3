/- impl: Frame.grown, Frame.shrunk, over the table beside. -/
import Derived.Test.YthkpefdjhdemeaaDoorRows
import Derived.Test.YthkpefdjhdemeaaDoorSGrow
import Derived.Test.YthkpefdjhdemeaaDoorIMoved
import Derived.Test.YthkpefdjhdemeaaDoorIJoin
import Derived.Test.YthkpefdjhdemeaaDoorTab
namespace Go.Proofs.YthkpefdjhdemeaaDoor
set_option maxRecDepth 100000
open Go.RowKit
set_option linter.unusedVariables false
def wayX : Nat → Int | 0 => 0 | 1 => -1 | 2 => 1 | _ => 0
def wayY : Nat → Int | 0 => -1 | 1 => 0 | 2 => 0 | _ => 1
def growTo (f : Nat → Nat) : Nat → (Nat → Nat)
  | 0 => f
  | k + 1 => joinF (growTo f k) (movedI f (wayX k) (wayY k) 12)
theorem movedI_lt {f : Nat → Nat} (hf : ∀ k, f k < 65536) (e s : Int) (k : Nat) : movedI f e s 12 k < 65536 := by
  unfold movedI
  split
  · exact movedRow_lt (hf _) _
  · decide
theorem growTo_lt {f : Nat → Nat} (hf : ∀ k, f k < 65536) (n : Nat) : ∀ k, growTo f n k < 65536 := by
  induction n with
  | zero => exact hf
  | succ n ih => exact joinF_lt ih (movedI_lt hf _ _)
theorem way_bounds (k : Nat) : -12 ≤ wayX k ∧ wayX k ≤ 12 ∧ -12 ≤ wayY k ∧ wayY k ≤ 12 := by
  match k with
  | 0 => decide
  | 1 => decide
  | 2 => decide
  | _ + 3 => simp [wayX, wayY]
set_option maxHeartbeats 2000000 in
theorem grown_any (f : Nat → Nat) (ho : okF f = true) (hf : ∀ k, f k < 65536) (w : World) (hT : Tab w 0 BT) :
    Calls Tryd.prog 109 #[.agg (FC f)] w fun e' w' => e' = .returned (.agg (FC (growI f))) ∧ Below w.heap.size w w' := by
  have b1 := ((Blk.new w 27 f).alloc (.cells (FC zeroF) 27)).alloc (.cells (FC zeroF) 27)
  have b2 := (Blk.new (w.alloc (.cells (FC f) 27)) 27 zeroF).alloc (.cells (FC zeroF) 27)
  have b3 := Blk.new ((w.alloc (.cells (FC f) 27)).alloc (.cells (FC zeroF) 27)) 27 zeroF
  have bf := (Blk.new w 27 f).alloc (.cells (FC zeroF) 27)
  rw [World.size_alloc] at b2
  rw [World.size_alloc, World.size_alloc] at b3
  have h0 := (((Below.refl w.heap.size w).alloc (Nat.le_refl _) (.cells (FC f) 27)).alloc (by simp) (.cells (FC zeroF) 27)).alloc (by simp; omega) (.cells (FC zeroF) 27)
  have hgl := Tab.lt hT
  have t1 := Tab.setRowOther (Tab.alloc (Tab.alloc (Tab.alloc hT (.cells (FC f) 27)) (.cells (FC zeroF) 27)) (.cells (FC zeroF) 27)) (FC f) (show 0 ≠ w.heap.size + 1 + 1 by omega)
  clear hT
  rw [FC_zero] at b1 b2 b3 bf h0 t1
  obtain ⟨tt, fr, t1⟩ := t1
  go_enter Tryd.func109, Tryd.ntmps109
  go_wp2_with (first | (refine wpList_load_fr rfl 27 22 _ rfl _ rfl (by first | exact b1 | exact bf) Tryd.underlying27 (by kernel_rfl) ?_) | (refine wpList_store_fr (f := f) rfl 27 _ _ rfl _ rfl b3 rfl (by kernel_rfl) ?_) | (refine wpList_load_row rfl 91 _ rfl _ rfl _ _ _ _ t1 Tryd.underlying91 rfl (by kernel_rfl) ?_))
  clear bf
  replace b1 := b1.setRowOther (FC f) (show w.heap.size ≠ w.heap.size + 1 + 1 by omega)
  replace b2 := b2.setRowOther (FC f) (show w.heap.size + 1 ≠ w.heap.size + 1 + 1 by omega)
  replace b3 := b3.setRow f
  replace h0 := below_setRow h0 (show w.heap.size ≤ w.heap.size + 1 + 1 by omega) (FC f)
  generalize World.setRow _ _ _ = w1 at b1 b2 b3 h0 t1 ⊢
  clear t1
  unfold BT
  go_loopw [8] (fun i wr => ∃ k : Nat, k ≤ 4 ∧ i = .int .i64 k ∧ Blk wr w.heap.size 27 f ∧ Blk wr (w.heap.size + 1) 27 zeroF ∧ Blk wr (w.heap.size + 1 + 1) 27 (growTo f k) ∧ Below w.heap.size w wr) (fun i _ => 4 - (intOf i).toNat)
  case atStart => exact ⟨0, by omega, rfl, b1, b2, b3, h0⟩
  case round =>
    obtain ⟨k, hk, rfl, b1, b2, b3, hb⟩ := hrel
    by_cases hlt : k < 4
    · have hw := way_bounds k
      have cM := fun w => moved_any f (wayX k) (wayY k) ho hw.1 hw.2.1 hw.2.2.1 hw.2.2.2 w
      have cJ := fun w => join_any (growTo f k) (movedI f (wayX k) (wayY k) 12) (growTo_lt hf k) (movedI_lt hf _ _) w
      clear hw
      have hkk : k = 0 ∨ k = 1 ∨ k = 2 ∨ k = 3 := by omega
      rcases hkk with rfl | rfl | rfl | rfl
      · have ix : ∀ w, (Instr.index 91 (.agg #[.int .i64 0, .int .i64 (-1), .int .i64 (-1), .int .i64 0, .int .i64 1, .int .i64 0, .int .i64 0, .int .i64 1]) (.int .i64 0)).run Tryd.prog w = .ok (.agg #[.int .i64 0, .int .i64 (-1)]) w := fun w => by kernel_rfl
        simp only [wayX, wayY] at cM cJ
        go_wp2_with fail
        clear ix
        have rw := Row.new wr 90 #[.int .i64 0, .int .i64 (-1)]
        have cx : (wr.alloc (.cells #[.int .i64 0, .int .i64 (-1)] 90)).cell? ⟨wr.heap.size, 0, none⟩ = some (.int .i64 0) := Row.cell rw 0
        have cy : (wr.alloc (.cells #[.int .i64 0, .int .i64 (-1)] 90)).cell? ⟨wr.heap.size, 1, none⟩ = some (.int .i64 (-1)) := Row.cell rw 1
        replace b1 := b1.alloc (.cells #[.int .i64 0, .int .i64 (-1)] 90)
        replace b2 := b2.alloc (.cells #[.int .i64 0, .int .i64 (-1)] 90)
        replace b3 := b3.alloc (.cells #[.int .i64 0, .int .i64 (-1)] 90)
        replace hb := hb.alloc hb.size (.cells #[.int .i64 0, .int .i64 (-1)] 90)
        clear rw
        generalize wr.alloc (.cells #[.int .i64 0, .int .i64 (-1)] 90) = w2 at *
        generalize wr.heap.size = gw at *
        have cx2 := fun d os => cell_regrown cx d os
        have cy2 := fun d os => cell_regrown cy d os
        clear cx cy
        refine wp_region_tail 8 (by kernel_rfl) (by kernel_rfl) ?_
        simp only [List.take_succ_cons, List.take_zero, List.drop_succ_cons, List.drop_zero]
        repeat (first | (refine wpQuiet_load_fr rfl 27 22 _ rfl _ rfl (by first | exact b1 | exact b3) Tryd.underlying27 (by kernel_rfl) ?_) | quiet_step (first | exact Calls.regrown_of (cM _) | exact Calls.regrown_of (cJ _)))
        refine wpQuiet_nil ?_
        intro w3 hb1
        replace b1 := b1.below hb1 b1.lt
        replace b2 := b2.below hb1 b2.lt
        replace b3 := b3.below hb1 b3.lt
        replace hb := grown_below hb hb1 hb.size
        clear hb1 cM cJ
        go_wp2_with (refine wpList_store_fr rfl 27 _ _ rfl _ rfl b3 rfl (by kernel_rfl) ?_)
        go_roundw
        case rel => exact ⟨0 + 1, by omega, rfl, b1.setRowOther _ (by omega), b2.setRowOther _ (by omega), b3.setRow _, below_setRow hb (by omega) _⟩
        case measure => simp [intOf]
      · have ix : ∀ w, (Instr.index 91 (.agg #[.int .i64 0, .int .i64 (-1), .int .i64 (-1), .int .i64 0, .int .i64 1, .int .i64 0, .int .i64 0, .int .i64 1]) (.int .i64 1)).run Tryd.prog w = .ok (.agg #[.int .i64 (-1), .int .i64 0]) w := fun w => by kernel_rfl
        simp only [wayX, wayY] at cM cJ
        go_wp2_with fail
        clear ix
        have rw := Row.new wr 90 #[.int .i64 (-1), .int .i64 0]
        have cx : (wr.alloc (.cells #[.int .i64 (-1), .int .i64 0] 90)).cell? ⟨wr.heap.size, 0, none⟩ = some (.int .i64 (-1)) := Row.cell rw 0
        have cy : (wr.alloc (.cells #[.int .i64 (-1), .int .i64 0] 90)).cell? ⟨wr.heap.size, 1, none⟩ = some (.int .i64 0) := Row.cell rw 1
        replace b1 := b1.alloc (.cells #[.int .i64 (-1), .int .i64 0] 90)
        replace b2 := b2.alloc (.cells #[.int .i64 (-1), .int .i64 0] 90)
        replace b3 := b3.alloc (.cells #[.int .i64 (-1), .int .i64 0] 90)
        replace hb := hb.alloc hb.size (.cells #[.int .i64 (-1), .int .i64 0] 90)
        clear rw
        generalize wr.alloc (.cells #[.int .i64 (-1), .int .i64 0] 90) = w2 at *
        generalize wr.heap.size = gw at *
        have cx2 := fun d os => cell_regrown cx d os
        have cy2 := fun d os => cell_regrown cy d os
        clear cx cy
        refine wp_region_tail 8 (by kernel_rfl) (by kernel_rfl) ?_
        simp only [List.take_succ_cons, List.take_zero, List.drop_succ_cons, List.drop_zero]
        repeat (first | (refine wpQuiet_load_fr rfl 27 22 _ rfl _ rfl (by first | exact b1 | exact b3) Tryd.underlying27 (by kernel_rfl) ?_) | quiet_step (first | exact Calls.regrown_of (cM _) | exact Calls.regrown_of (cJ _)))
        refine wpQuiet_nil ?_
        intro w3 hb1
        replace b1 := b1.below hb1 b1.lt
        replace b2 := b2.below hb1 b2.lt
        replace b3 := b3.below hb1 b3.lt
        replace hb := grown_below hb hb1 hb.size
        clear hb1 cM cJ
        go_wp2_with (refine wpList_store_fr rfl 27 _ _ rfl _ rfl b3 rfl (by kernel_rfl) ?_)
        go_roundw
        case rel => exact ⟨1 + 1, by omega, rfl, b1.setRowOther _ (by omega), b2.setRowOther _ (by omega), b3.setRow _, below_setRow hb (by omega) _⟩
        case measure => simp [intOf]
      · have ix : ∀ w, (Instr.index 91 (.agg #[.int .i64 0, .int .i64 (-1), .int .i64 (-1), .int .i64 0, .int .i64 1, .int .i64 0, .int .i64 0, .int .i64 1]) (.int .i64 2)).run Tryd.prog w = .ok (.agg #[.int .i64 1, .int .i64 0]) w := fun w => by kernel_rfl
        simp only [wayX, wayY] at cM cJ
        go_wp2_with fail
        clear ix
        have rw := Row.new wr 90 #[.int .i64 1, .int .i64 0]
        have cx : (wr.alloc (.cells #[.int .i64 1, .int .i64 0] 90)).cell? ⟨wr.heap.size, 0, none⟩ = some (.int .i64 1) := Row.cell rw 0
        have cy : (wr.alloc (.cells #[.int .i64 1, .int .i64 0] 90)).cell? ⟨wr.heap.size, 1, none⟩ = some (.int .i64 0) := Row.cell rw 1
        replace b1 := b1.alloc (.cells #[.int .i64 1, .int .i64 0] 90)
        replace b2 := b2.alloc (.cells #[.int .i64 1, .int .i64 0] 90)
        replace b3 := b3.alloc (.cells #[.int .i64 1, .int .i64 0] 90)
        replace hb := hb.alloc hb.size (.cells #[.int .i64 1, .int .i64 0] 90)
        clear rw
        generalize wr.alloc (.cells #[.int .i64 1, .int .i64 0] 90) = w2 at *
        generalize wr.heap.size = gw at *
        have cx2 := fun d os => cell_regrown cx d os
        have cy2 := fun d os => cell_regrown cy d os
        clear cx cy
        refine wp_region_tail 8 (by kernel_rfl) (by kernel_rfl) ?_
        simp only [List.take_succ_cons, List.take_zero, List.drop_succ_cons, List.drop_zero]
        repeat (first | (refine wpQuiet_load_fr rfl 27 22 _ rfl _ rfl (by first | exact b1 | exact b3) Tryd.underlying27 (by kernel_rfl) ?_) | quiet_step (first | exact Calls.regrown_of (cM _) | exact Calls.regrown_of (cJ _)))
        refine wpQuiet_nil ?_
        intro w3 hb1
        replace b1 := b1.below hb1 b1.lt
        replace b2 := b2.below hb1 b2.lt
        replace b3 := b3.below hb1 b3.lt
        replace hb := grown_below hb hb1 hb.size
        clear hb1 cM cJ
        go_wp2_with (refine wpList_store_fr rfl 27 _ _ rfl _ rfl b3 rfl (by kernel_rfl) ?_)
        go_roundw
        case rel => exact ⟨2 + 1, by omega, rfl, b1.setRowOther _ (by omega), b2.setRowOther _ (by omega), b3.setRow _, below_setRow hb (by omega) _⟩
        case measure => simp [intOf]
      · have ix : ∀ w, (Instr.index 91 (.agg #[.int .i64 0, .int .i64 (-1), .int .i64 (-1), .int .i64 0, .int .i64 1, .int .i64 0, .int .i64 0, .int .i64 1]) (.int .i64 3)).run Tryd.prog w = .ok (.agg #[.int .i64 0, .int .i64 1]) w := fun w => by kernel_rfl
        simp only [wayX, wayY] at cM cJ
        go_wp2_with fail
        clear ix
        have rw := Row.new wr 90 #[.int .i64 0, .int .i64 1]
        have cx : (wr.alloc (.cells #[.int .i64 0, .int .i64 1] 90)).cell? ⟨wr.heap.size, 0, none⟩ = some (.int .i64 0) := Row.cell rw 0
        have cy : (wr.alloc (.cells #[.int .i64 0, .int .i64 1] 90)).cell? ⟨wr.heap.size, 1, none⟩ = some (.int .i64 1) := Row.cell rw 1
        replace b1 := b1.alloc (.cells #[.int .i64 0, .int .i64 1] 90)
        replace b2 := b2.alloc (.cells #[.int .i64 0, .int .i64 1] 90)
        replace b3 := b3.alloc (.cells #[.int .i64 0, .int .i64 1] 90)
        replace hb := hb.alloc hb.size (.cells #[.int .i64 0, .int .i64 1] 90)
        clear rw
        generalize wr.alloc (.cells #[.int .i64 0, .int .i64 1] 90) = w2 at *
        generalize wr.heap.size = gw at *
        have cx2 := fun d os => cell_regrown cx d os
        have cy2 := fun d os => cell_regrown cy d os
        clear cx cy
        refine wp_region_tail 8 (by kernel_rfl) (by kernel_rfl) ?_
        simp only [List.take_succ_cons, List.take_zero, List.drop_succ_cons, List.drop_zero]
        repeat (first | (refine wpQuiet_load_fr rfl 27 22 _ rfl _ rfl (by first | exact b1 | exact b3) Tryd.underlying27 (by kernel_rfl) ?_) | quiet_step (first | exact Calls.regrown_of (cM _) | exact Calls.regrown_of (cJ _)))
        refine wpQuiet_nil ?_
        intro w3 hb1
        replace b1 := b1.below hb1 b1.lt
        replace b2 := b2.below hb1 b2.lt
        replace b3 := b3.below hb1 b3.lt
        replace hb := grown_below hb hb1 hb.size
        clear hb1 cM cJ
        go_wp2_with (refine wpList_store_fr rfl 27 _ _ rfl _ rfl b3 rfl (by kernel_rfl) ?_)
        go_roundw
        case rel => exact ⟨3 + 1, by omega, rfl, b1.setRowOther _ (by omega), b2.setRowOther _ (by omega), b3.setRow _, below_setRow hb (by omega) _⟩
        case measure => simp [intOf]
    · have hke : k = 4 := by omega
      subst hke
      go_wp2_with (first | (refine wpList_load_fr rfl 27 22 _ rfl _ rfl b3 Tryd.underlying27 (by kernel_rfl) ?_) | (refine wpList_store_fr rfl 27 _ _ rfl _ rfl b2 rfl (by kernel_rfl) ?_))
      exact bodyPost_ret_fr (p := 2) (ty := 27) (e := 22) rfl rfl (b2.setRow _) Tryd.underlying27 (by kernel_rfl) rfl ⟨rfl, below_setRow hb (by omega) _⟩
end Go.Proofs.YthkpefdjhdemeaaDoor
