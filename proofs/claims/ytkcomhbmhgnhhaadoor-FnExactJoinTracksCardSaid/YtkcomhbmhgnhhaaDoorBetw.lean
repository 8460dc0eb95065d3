/- impl: Key.between. -/
import Derived.Test.YtkcomhbmhgnhhaaDoorBetween
import Derived.Test.YtkcomhbmhgnhhaaDoorTrackM
import Derived.Test.YtkcomhbmhgnhhaaDoorCellQ
namespace Go.Proofs.YtkcomhbmhgnhhaaDoor
set_option maxRecDepth 100000
open Go.RowKit
set_option linter.unusedVariables false
set_option linter.unusedSimpArgs false
set_option maxHeartbeats 2000000 in
theorem between_any (a x y b u z s t : Int) (w : World) (hx : -24 ≤ x ∧ x ≤ 24) (hy : -24 ≤ y ∧ y ≤ 24) (hu : -24 ≤ u ∧ u ≤ 24) (hz : -24 ≤ z ∧ z ≤ 24) (hs : 0 ≤ s ∧ s ≤ 1000) :
    Calls Tryd.prog 78 #[.agg (KC (a, x, y)), .agg (KC (b, u, z)), .int .i64 s, .int .i16 t] w fun r w' => r = .returned (.agg (KC (t, betI x u s, betI y z s))) ∧ Below w.heap.size w w' := by
  have bX := betI_bounds (lo := -24) (hi := 24) hx hu hs
  have bY := betI_bounds (lo := -24) (hi := 24) hy hz hs
  have cX := fun w => to_below (numberBetween_any x u s w ⟨by omega, by omega⟩ ⟨by omega, by omega⟩ hs)
  have cY := fun w => to_below (numberBetween_any y z s w ⟨by omega, by omega⟩ ⟨by omega, by omega⟩ hs)
  generalize betI x u s = X at *
  generalize betI y z s = Y at *
  have kX : IntKind.i8.wrap X = X := IntWalk.i8_in _ (by omega)
  have kY : IntKind.i8.wrap Y = Y := IntWalk.i8_in _ (by omega)
  have kx : IntKind.i64.wrap x = x := IntWalk.i64_in _ (by omega)
  have ky : IntKind.i64.wrap y = y := IntWalk.i64_in _ (by omega)
  have ku : IntKind.i64.wrap u = u := IntWalk.i64_in _ (by omega)
  have kz : IntKind.i64.wrap z = z := IntWalk.i64_in _ (by omega)
  have r4 := ((Row.new w 50 (KC (a, x, y))).alloc (.cells (KC (b, u, z)) 50)).alloc (.cells (KC zeroK) 50)
  have r5 := (Row.new (w.alloc (.cells (KC (a, x, y)) 50)) 50 (KC (b, u, z))).alloc (.cells (KC zeroK) 50)
  have r6 := Row.new ((w.alloc (.cells (KC (a, x, y)) 50)).alloc (.cells (KC (b, u, z)) 50)) 50 (KC zeroK)
  have hb := (((Below.refl w.heap.size w).alloc (Nat.le_refl _) (.cells (KC (a, x, y)) 50)).alloc (by simp) (.cells (KC (b, u, z)) 50)).alloc (by simp; omega) (.cells (KC zeroK) 50)
  rw [World.size_alloc] at r5
  rw [World.size_alloc, World.size_alloc] at r6
  clear bX bY hx hy hu hz hs
  go_enter Tryd.func78, Tryd.ntmps78
  go_wp2
  change Code.wp _ _ _ _ (((w.alloc (.cells (KC (a, x, y)) 50)).alloc (.cells (KC (b, u, z)) 50)).alloc (.cells (KC zeroK) 50))
  generalize (((w.alloc (.cells (KC (a, x, y)) 50)).alloc (.cells (KC (b, u, z)) 50)).alloc (.cells (KC zeroK) 50)) = w3 at *
  have q1 := cell_q (w := w3) (v := .int .i8 x) (r4.cell 1)
  have q2 := cell_q (w := w3) (v := .int .i8 y) (r4.cell 2)
  have q3 := cell_q (w := w3) (v := .int .i8 u) (r5.cell 1)
  have q4 := cell_q (w := w3) (v := .int .i8 z) (r5.cell 2)
  refine wp_region_tail 20 (by kernel_rfl) (by kernel_rfl) ?_
  simp only [List.take_succ_cons, List.take_zero, List.drop_succ_cons, List.drop_zero]
  repeat (quiet_step (first | with_reducible exact Calls.regrown_of (cX _) | with_reducible exact Calls.regrown_of (cY _)))
  refine wpQuiet_nil ?_
  intro w4 hb4
  replace hb := grown_below hb hb4 hb.size
  replace r6 := r6.below hb4 r6.lt
  go_wp2_with (refine wpList_store_row rfl 50 _ _ rfl _ rfl r6 rfl rfl (by intro v hv; simp at hv; rcases hv with rfl | rfl | rfl <;> rfl) (by kernel_rfl) ?_)
  have r7 := r6.setRow (KC (t, X, Y))
  refine bodyPost_ret_row (p := 8) (ty := 50) (cs := KC (t, X, Y)) rfl rfl r7 Tryd.underlying50 rfl (by kernel_rfl) rfl ⟨rfl, ?_⟩
  exact below_setRow hb (by omega) _
end Go.Proofs.YtkcomhbmhgnhhaaDoor
