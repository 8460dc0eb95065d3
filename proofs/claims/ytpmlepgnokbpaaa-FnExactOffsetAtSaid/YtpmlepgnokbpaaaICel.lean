/- impl: ValidCel, Cel.moved, Cel.upon. -/
import Derived.Test.YtpmlepgnokbpaaaRows
import Derived.Test.YtpmlepgnokbpaaaCel0
import Derived.Test.YtpmlepgnokbpaaaCelM
import Derived.Test.YtpmlepgnokbpaaaIValid
import Derived.Test.YtpmlepgnokbpaaaIMeet
import Derived.Test.YtpmlepgnokbpaaaIJoin
import Derived.Test.YtpmlepgnokbpaaaILess
import Derived.Test.YtpmlepgnokbpaaaMovedW
import Derived.Test.YtpmlepgnokbpaaaHq
namespace Go.Proofs.Ytpmlepgnokbpaaa
set_option maxRecDepth 100000
open Go.RowKit
set_option linter.unusedVariables false
set_option linter.unusedSimpArgs false
set_option maxHeartbeats 1000000 in
theorem implValidCel_any (i k : Nat → Nat) (hi : ∀ y, i y < 65536) (hk : ∀ y, k y < 65536) (w : World) :
    Calls Try.prog 17 #[.agg (CC i k)] w fun e w' => e = .returned (.bool (okc i k)) ∧ Below w.heap.size w w' := by
  obtain ⟨i0, hi0⟩ : ∃ i, Try.prog.info? 22 = some i := ⟨_, rfl⟩
  have r := CelAt.new w 29 i k
  have h0 := (Below.refl w.heap.size w).alloc (Nat.le_refl _) (.cells (CC i k) 29)
  have cV := fun w => valid_any k hk w
  have cM := fun w => meet_any i k hi hk w
  have hq := fun w => run_eql_fr (P := Try.prog) w (meetF i k) i Try.underlying27 (by kernel_rfl) Try.underlying22 hi0 (by kernel_rfl)
  have ho := okc_impl hi hk
  clear hi0
  cases h1 : okF k with
  | false =>
    rw [h1, Bool.false_and] at ho
    rw [← ho]
    rw [h1] at cV
    clear h1 ho hq cM
    go_enter Try.func17, Try.ntmps17
    go_wp2_with fail
    have r1 := r.ink
    have r2 := r.cov
    have lt := r.lt
    generalize (w.alloc _) = w1 at *
    refine wp_region_calm (by kernel_rfl) (by kernel_rfl) ?_
    refine Hq.out ?_
    repeat (first | (refine hq_load_at (by rfl) 27 22 _ rfl _ _ rfl (by first | exact r1 | exact r2) lt Try.underlying27 (by kernel_rfl) ?_) | (refine hq_skip (by rfl) ?_) | ((refine hq_step (fun K hK => ?_)); go_simp; first | (refine hK _ ?_; clear hK K) | (apply Exists.intro; refine ⟨fun _ => ?_, hK _ ?_⟩; (exact Calls.regrown_of (cV _)); clear hK K)))
    refine hq_nil ?_
    intro w3 hb3
    go_wp2
    go_ret
    exact ⟨rfl, grown_below h0 hb3 h0.size⟩
  | true =>
    rw [h1, Bool.true_and] at ho
    rw [ho] at hq
    rw [h1] at cV
    generalize okc i k = q at *
    clear h1 ho
    go_enter Try.func17, Try.ntmps17
    go_wp2_with fail
    have r1 := r.ink
    have r2 := r.cov
    have lt := r.lt
    generalize (w.alloc _) = w1 at *
    refine wp_region_calm (by kernel_rfl) (by kernel_rfl) ?_
    refine Hq.out ?_
    repeat (first | (refine hq_load_at (by rfl) 27 22 _ rfl _ _ rfl (by first | exact r1 | exact r2) lt Try.underlying27 (by kernel_rfl) ?_) | ((refine hq_step (fun K hK => ?_)); go_simp; first | (refine hK _ ?_; clear hK K) | (apply Exists.intro; refine ⟨fun _ => ?_, hK _ ?_⟩; (first | with_reducible exact Calls.regrown_of (cV _) | with_reducible exact Calls.regrown_of (cM _)); clear hK K)))
    refine hq_nil ?_
    intro w3 hb3
    go_wp2
    go_ret
    exact ⟨rfl, grown_below h0 hb3 h0.size⟩
set_option maxHeartbeats 1000000 in
theorem implCelMoved_any (i k : Nat → Nat) (e s : Int) (oi : okF i = true) (ok : okF k = true) (e1 : -200 ≤ e) (e2 : e ≤ 200) (s1 : -200 ≤ s) (s2 : s ≤ 200) (w : World) :
    Calls Try.prog 69 #[.agg (CC i k), .int .i64 e, .int .i64 s] w fun e' w' => e' = .returned (.agg (CC (movedI i e s 12) (movedI k e s 12))) ∧ Below w.heap.size w w' := by
  have a1 := (CelAt.new w 29 i k).alloc (.cells (CC zeroF zeroF) 29)
  have r := CelAt.new (w.alloc (.cells (CC i k) 29)) 29 zeroF zeroF
  rw [World.size_alloc] at r
  have h0 := ((Below.refl w.heap.size w).alloc (Nat.le_refl _) (.cells (CC i k) 29)).alloc (by simp) (.cells (CC zeroF zeroF) 29)
  have cI := fun w' => movedW_any i e s oi e1 e2 s1 s2 w'
  have cK := fun w' => movedW_any k e s ok e1 e2 s1 s2 w'
  have hbl := build_cel (movedI i e s 12) (movedI k e s 12)
  rw [CC_zero] at r h0 a1
  go_enter Try.func69, Try.ntmps69
  go_wp2_with fail
  generalize ((w.alloc _).alloc _) = w1 at *
  have r1 := a1.ink
  have r2 := a1.cov
  have lt := a1.lt
  refine wp_region_tail 11 (by kernel_rfl) (by kernel_rfl) ?_
  simp only [List.take_succ_cons, List.take_zero, List.drop_succ_cons, List.drop_zero]
  repeat (first | (refine wpQuiet_load_at rfl 27 22 _ rfl _ _ rfl (by first | exact r1 | exact r2) lt Try.underlying27 (by kernel_rfl) ?_) | (refine wpQuiet_build2 (u := .agg (FC (movedI i e s 12))) (v := .agg (FC (movedI k e s 12))) rfl 29 0 1 _ _ rfl rfl rfl hbl ?_) | quiet_step (first | with_reducible exact Calls.regrown_of (cI _) | with_reducible exact Calls.regrown_of (cK _)))
  refine wpQuiet_nil ?_
  intro w3 hb3
  replace r := r.below hb3 r.lt
  replace h0 := grown_below h0 hb3 h0.size
  clear cI cK hb3
  go_wp2_with (refine wpList_store_cel rfl 29 _ _ rfl r rfl rfl (by kernel_rfl) ?_; intro r')
  exact bodyPost_ret_row (p := 6) (ty := 29) rfl rfl r' Try.underlying29 rfl (by kernel_rfl) rfl ⟨rfl, below_setRow h0 (by omega) _⟩
set_option maxHeartbeats 1000000 in
theorem upon_any (i k i2 k2 : Nat → Nat) (hi : ∀ y, i y < 65536) (hk : ∀ y, k y < 65536) (hi2 : ∀ y, i2 y < 65536) (hk2 : ∀ y, k2 y < 65536) (w : World) :
    Calls Try.prog 71 #[.agg (CC i k), .agg (CC i2 k2)] w fun e' w' => e' = .returned (.agg (CC (ovI i k i2) (joinF k k2))) ∧ Below w.heap.size w w' := by
  have a1 := ((CelAt.new w 29 i k).alloc (.cells (CC i2 k2) 29)).alloc (.cells (CC zeroF zeroF) 29)
  have a2 := (CelAt.new (w.alloc (.cells (CC i k) 29)) 29 i2 k2).alloc (.cells (CC zeroF zeroF) 29)
  have r := CelAt.new ((w.alloc (.cells (CC i k) 29)).alloc (.cells (CC i2 k2) 29)) 29 zeroF zeroF
  rw [World.size_alloc] at a2
  rw [World.size_alloc, World.size_alloc] at r
  have h0 := (((Below.refl w.heap.size w).alloc (Nat.le_refl _) (.cells (CC i k) 29)).alloc (by simp) (.cells (CC i2 k2) 29)).alloc (by simp; omega) (.cells (CC zeroF zeroF) 29)
  have cL := fun w' => less_any i2 k hi2 hk w'
  have cI := fun w' => join_any i (lessF i2 k) hi (lessF_lt hi2) w'
  have cK := fun w' => join_any k k2 hk hk2 w'
  have hbl := build_cel (ovI i k i2) (joinF k k2)
  have ho : joinF i (lessF i2 k) = ovI i k i2 := rfl
  rw [ho] at cI
  rw [CC_zero] at r h0 a1 a2
  go_enter Try.func71, Try.ntmps71
  go_wp2_with fail
  generalize (((w.alloc _).alloc _).alloc _) = w1 at *
  have r1 := a1.ink
  have r2 := a1.cov
  have r3 := a2.ink
  have r4 := a2.cov
  have lt := a1.lt
  have lt2 := a2.lt
  clear a1 a2 ho
  refine wp_region_tail 14 (by kernel_rfl) (by kernel_rfl) ?_
  simp only [List.take_succ_cons, List.take_zero, List.drop_succ_cons, List.drop_zero]
  repeat (first | (refine wpQuiet_load_at rfl 27 22 _ rfl _ _ rfl (by first | with_reducible exact r1 | with_reducible exact r2 | with_reducible exact r3 | with_reducible exact r4) (by first | exact lt | exact lt2) Try.underlying27 (by kernel_rfl) ?_) | (refine wpQuiet_build2 (u := .agg (FC (ovI i k i2))) (v := .agg (FC (joinF k k2))) rfl 29 0 1 _ _ rfl rfl rfl hbl ?_) | quiet_step (first | with_reducible exact Calls.regrown_of (cL _) | with_reducible exact Calls.regrown_of (cI _) | with_reducible exact Calls.regrown_of (cK _)))
  refine wpQuiet_nil ?_
  intro w3 hb3
  replace r := r.below hb3 r.lt
  replace h0 := grown_below h0 hb3 h0.size
  clear cI cK cL hb3
  go_wp2_with (refine wpList_store_cel rfl 29 _ _ rfl r rfl rfl (by kernel_rfl) ?_; intro r')
  exact bodyPost_ret_row (p := 4) (ty := 29) rfl rfl r' Try.underlying29 rfl (by kernel_rfl) rfl ⟨rfl, below_setRow h0 (by omega) _⟩
end Go.Proofs.Ytpmlepgnokbpaaa
