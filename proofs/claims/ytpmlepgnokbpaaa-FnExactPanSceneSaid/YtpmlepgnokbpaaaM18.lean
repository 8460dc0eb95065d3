import Derived.Test.YtpmlepgnokbpaaaRows
import Derived.Test.YtpmlepgnokbpaaaM4
import Derived.Test.YtpmlepgnokbpaaaM6
import Derived.Test.YtpmlepgnokbpaaaM9
import Derived.Test.YtpmlepgnokbpaaaM16
import Derived.Test.YtpmlepgnokbpaaaM17
import Derived.Test.YtpmlepgnokbpaaaM8
import Derived.Test.YtpmlepgnokbpaaaM1
import Derived.Test.YtpmlepgnokbpaaaM13
/- impl: ValidCel, Cel.moved, Cel.upon. -/
namespace Go.Proofs.Ytpmlepgnokbpaaa
set_option maxRecDepth 100000
open Go.RowKit
set_option linter.unusedVariables false
set_option linter.unusedSimpArgs false
set_option maxHeartbeats 1000000 in
theorem implValidCel_any (i k : Nat → Nat) (hi : ∀ y, i y < 65536) (hk : ∀ y, k y < 65536) (w : World) :
    Calls Try.prog 17 #[.agg (CC i k)] w fun e w' => e = .returned (.bool (okc i k)) ∧ Below w.heap.size w w' := by
  obtain ⟨i0, hi0⟩ : ∃ i, Try.prog.info? 22 = some i := ⟨_, rfl⟩
  have r := CelAt.new w 29 i k
  have h0 := (Below.refl w.heap.size w).alloc (Nat.le_refl _) (.cells (CC i k) 29)
  have cV := fun w => valid_any k hk w
  have cM := fun w => meet_any i k hi hk w
  have hq := fun w => run_eql_fr (P := Try.prog) w (meetF i k) i Try.underlying27 (by kernel_rfl) Try.underlying22 hi0 (by kernel_rfl)
  have ho := okc_impl hi hk
  clear hi0
  cases h1 : okF k with
  | false =>
    rw [h1, Bool.false_and] at ho
    rw [← ho]
    rw [h1] at cV
    clear h1 ho hq cM
    go_enter Try.func17, Try.ntmps17
    go_wp2_with fail
    have r1 := r.ink
    have r2 := r.cov
    have lt := r.lt
    generalize (w.alloc _) = w1 at *
    refine wp_region_calm (by kernel_rfl) (by kernel_rfl) ?_
    refine Hq.out ?_
    repeat (first | (refine hq_load_at (by rfl) 27 22 _ rfl _ _ rfl (by first | exact r1 | exact r2) lt Try.underlying27 (by kernel_rfl) ?_) | (refine hq_skip (by rfl) ?_) | ((refine hq_step (fun K hK => ?_)); go_simp; first | (refine hK _ ?_; clear hK K) | (apply Exists.intro; refine ⟨fun _ => ?_, hK _ ?_⟩; (exact Calls.regrown_of (cV _)); clear hK K)))
    refine hq_nil ?_
    intro w3 hb3
    go_wp2
    go_ret
    exact ⟨rfl, grown_below h0 hb3 h0.size⟩
  | true =>
    rw [h1, Bool.true_and] at ho
    rw [ho] at hq
    rw [h1] at cV
    generalize okc i k = q at *
    clear h1 ho
    go_enter Try.func17, Try.ntmps17
    go_wp2_with fail
    have r1 := r.ink
    have r2 := r.cov
    have lt := r.lt
    generalize (w.alloc _) = w1 at *
    refine wp_region_calm (by kernel_rfl) (by kernel_rfl) ?_
    refine Hq.out ?_
    repeat (first | (refine hq_load_at (by rfl) 27 22 _ rfl _ _ rfl (by first | exact r1 | exact r2) lt Try.underlying27 (by kernel_rfl) ?_) | ((refine hq_step (fun K hK => ?_)); go_simp; first | (refine hK _ ?_; clear hK K) | (apply Exists.intro; refine ⟨fun _ => ?_, hK _ ?_⟩; (first | with_reducible exact Calls.regrown_of (cV _) | with_reducible exact Calls.regrown_of (cM _)); clear hK K)))
    refine hq_nil ?_
    intro w3 hb3
    go_wp2
    go_ret
    exact ⟨rfl, grown_below h0 hb3 h0.size⟩
set_option maxHeartbeats 1000000 in
theorem implCelMoved_any (i k : Nat → Nat) (e s : Int) (oi : okF i = true) (ok : okF k = true) (e1 : -200 ≤ e) (e2 : e ≤ 200) (s1 : -200 ≤ s) (s2 : s ≤ 200) (w : World) :
    Calls Try.prog 69 #[.agg (CC i k), .int .i64 e, .int .i64 s] w fun e' w' => e' = .returned (.agg (CC (movedI i e s 12) (movedI k e s 12))) ∧ Below w.heap.size w w' := by
  have a1 := (CelAt.new w 29 i k).alloc (.cells (CC zeroF zeroF) 29)
  have r := CelAt.new (w.alloc (.cells (CC i k) 29)) 29 zeroF zeroF
  rw [World.size_alloc] at r
  have h0 := ((Below.refl w.heap.size w).alloc (Nat.le_refl _) (.cells (CC i k) 29)).alloc (by simp) (.cells (CC zeroF zeroF) 29)
  have cI := fun w' => movedW_any i e s oi e1 e2 s1 s2 w'
  have cK := fun w' => movedW_any k e s ok e1 e2 s1 s2 w'
  have hbl := build_cel (movedI i e s 12) (movedI k e s 12)
  rw [CC_zero] at r h0 a1
  go_enter Try.func69, Try.ntmps69
  go_wp2_with fail
  generalize ((w.alloc _).alloc _) = w1 at *
  have r1 := a1.ink
  have r2 := a1.cov
  have lt := a1.lt
  refine wp_region_tail 11 (by kernel_rfl) (by kernel_rfl) ?_
  simp only [List.take_succ_cons, List.take_zero, List.drop_succ_cons, List.drop_zero]
  repeat (first | (refine wpQuiet_load_at rfl 27 22 _ rfl _ _ rfl (by first | exact r1 | exact r2) lt Try.underlying27 (by kernel_rfl) ?_) | (refine wpQuiet_build2 (u := .agg (FC (movedI i e s 12))) (v := .agg (FC (movedI k e s 12))) rfl 29 0 1 _ _ rfl rfl rfl hbl ?_) | quiet_step (first | with_reducible exact Calls.regrown_of (cI _) | with_reducible exact Calls.regrown_of (cK _)))
  refine wpQuiet_nil ?_
  intro w3 hb3
  replace r := r.below hb3 r.lt
  replace h0 := grown_below h0 hb3 h0.size
  clear cI cK hb3
  go_wp2_with (refine wpList_store_cel rfl 29 _ _ rfl r rfl rfl (by kernel_rfl) ?_; intro r')
  exact bodyPost_ret_row (p := 6) (ty := 29) rfl rfl r' Try.underlying29 rfl (by kernel_rfl) rfl ⟨rfl, below_setRow h0 (by omega) _⟩
set_option maxHeartbeats 1000000 in
theorem upon_any (i k i2 k2 : Nat → Nat) (hi : ∀ y, i y < 65536) (hk : ∀ y, k y < 65536) (hi2 : ∀ y, i2 y < 65536) (hk2 : ∀ y, k2 y < 65536) (w : World) :
    Calls Try.prog 71 #[.agg (CC i k), .agg (CC i2 k2)] w fun e' w' => e' = .returned (.agg (CC (ovI i k i2) (joinF k k2))) ∧ Below w.heap.size w w' := by
  have a1 := ((CelAt.new w 29 i k).alloc (.cells (CC i2 k2) 29)).alloc (.cells (CC zeroF zeroF) 29)
  have a2 := (CelAt.new (w.alloc (.cells (CC i k) 29)) 29 i2 k2).alloc (.cells (CC zeroF zeroF) 29)
  have r := CelAt.new ((w.alloc (.cells (CC i k) 29)).alloc (.cells (CC i2 k2) 29)) 29 zeroF zeroF
  rw [World.size_alloc] at a2
  rw [World.size_alloc, World.size_alloc] at r
  have h0 := (((Below.refl w.heap.size w).alloc (Nat.le_refl _) (.cells (CC i k) 29)).alloc (by simp) (.cells (CC i2 k2) 29)).alloc (by simp; omega) (.cells (CC zeroF zeroF) 29)
  have cL := fun w' => less_any i2 k hi2 hk w'
  have cI := fun w' => join_any i (lessF i2 k) hi (lessF_lt hi2) w'
  have cK := fun w' => join_any k k2 hk hk2 w'
  have hbl := build_cel (ovI i k i2) (joinF k k2)
  have ho : joinF i (lessF i2 k) = ovI i k i2 := rfl
  rw [ho] at cI
  rw [CC_zero] at r h0 a1 a2
  go_enter Try.func71, Try.ntmps71
  go_wp2_with fail
  generalize (((w.alloc _).alloc _).alloc _) = w1 at *
  have r1 := a1.ink
  have r2 := a1.cov
  have r3 := a2.ink
  have r4 := a2.cov
  have lt := a1.lt
  have lt2 := a2.lt
  clear a1 a2 ho
  refine wp_region_tail 14 (by kernel_rfl) (by kernel_rfl) ?_
  simp only [List.take_succ_cons, List.take_zero, List.drop_succ_cons, List.drop_zero]
  repeat (first | (refine wpQuiet_load_at rfl 27 22 _ rfl _ _ rfl (by first | with_reducible exact r1 | with_reducible exact r2 | with_reducible exact r3 | with_reducible exact r4) (by first | exact lt | exact lt2) Try.underlying27 (by kernel_rfl) ?_) | (refine wpQuiet_build2 (u := .agg (FC (ovI i k i2))) (v := .agg (FC (joinF k k2))) rfl 29 0 1 _ _ rfl rfl rfl hbl ?_) | quiet_step (first | with_reducible exact Calls.regrown_of (cL _) | with_reducible exact Calls.regrown_of (cI _) | with_reducible exact Calls.regrown_of (cK _)))
  refine wpQuiet_nil ?_
  intro w3 hb3
  replace r := r.below hb3 r.lt
  replace h0 := grown_below h0 hb3 h0.size
  clear cI cK cL hb3
  go_wp2_with (refine wpList_store_cel rfl 29 _ _ rfl r rfl rfl (by kernel_rfl) ?_; intro r')
  exact bodyPost_ret_row (p := 4) (ty := 29) rfl rfl r' Try.underlying29 rfl (by kernel_rfl) rfl ⟨rfl, below_setRow h0 (by omega) _⟩
end Go.Proofs.Ytpmlepgnokbpaaa

/- impl: isTick, isWithin. -/
namespace Go.Proofs.Ytpmlepgnokbpaaa
set_option maxRecDepth 100000
open Go.RowKit
set_option linter.unusedVariables false
theorem isTick_any (z : Int) (w : World) : Calls Try.prog 111 #[.int .i64 z] w fun e w' => e = .returned (.bool (inB z 0 200)) ∧ w = w' := by
  by_cases h1 : 0 ≤ z
  · go_enter Try.func111, Try.ntmps111
    go_wp2
    go_ret
    exact ⟨ret_bool (by simp [inB, h1]), rfl⟩
  · go_enter Try.func111, Try.ntmps111
    go_wp2
    go_ret
    exact ⟨ret_bool (by rw [inB_false.2 (by omega)]), rfl⟩
theorem isWithin_any (z m : Int) (w : World) (h0 : 0 ≤ m) (hm : m ≤ 100000) : Calls Try.prog 104 #[.int .i64 z, .int .i64 m] w fun e w' => e = .returned (.bool (inB z (-m) m)) ∧ w = w' := by
  by_cases h1 : -m ≤ z
  · go_enter Try.func104, Try.ntmps104
    go_wp2
    go_ret
    exact ⟨ret_bool (by simp [inB, h1]), rfl⟩
  · go_enter Try.func104, Try.ntmps104
    go_wp2
    go_ret
    exact ⟨ret_bool (by rw [inB_false.2 (by omega)]), rfl⟩
end Go.Proofs.Ytpmlepgnokbpaaa

/- impl: Layer.isValid, Scene.isValid, ValidScene, slices.Equal of scenes, SameScene, Layer.partOf, Layer.offset, camera.inRange, Scene.hasLayer, checkScene. -/
namespace Go.Proofs.Ytpmlepgnokbpaaa
set_option maxRecDepth 100000
open Go.RowKit
set_option linter.unusedVariables false
set_option linter.unusedSimpArgs false
set_option maxHeartbeats 1000000 in
theorem implLayer_any (l : Ly) (hl : ltLy1 l) (w : World) :
    Calls Try.prog 96 #[.agg (LC l)] w fun e w' => e = .returned (.bool (okl l)) ∧ Below w.heap.size w w' := by
  obtain ⟨hi, hk, he, hs, hh⟩ := hl
  have a1 := LayAt.new w 86 l
  have h0 := (Below.refl w.heap.size w).alloc (Nat.le_refl _) (.cells (LC l) 86)
  have cC := fun w' => implValidCel_any l.i l.k hi hk w'
  have cN := fun n w => isMove_any n w
  have k1 := i8_i64 he
  have k2 := i8_i64 hs
  have q8 : inB l.h 0 8 = (decide (0 ≤ l.h) && decide (l.h ≤ 8)) := by unfold inB; rw [Bool.decide_and]
  rcases okl_cases l with ⟨q1, qa⟩ | ⟨q1, q2, qa⟩ | ⟨q1, q2, q3, qa⟩ | ⟨q1, q2, q3, qa⟩
  case inr.inr.inr =>
    rw [q1] at cC
    rw [qa, q8]
    clear q1 qa q8
    by_cases g1 : 0 ≤ l.h
    · have d1 : decide (0 ≤ l.h) = true := decide_eq_true g1
      go_enter Try.func96, Try.ntmps96
      go_wp2_with (first
        | (refine wpList_load_celIn rfl 29 _ rfl _ _ rfl (by with_reducible exact a1.cel) Try.underlying29 rfl (by kernel_rfl) ?_)
        | (go_at_call 17; refine (cC _).mono ?_; rintro e' w1 ⟨rfl, hb⟩; replace a1 := a1.below hb a1.lt; replace h0 := grown_below h0 hb h0.size; clear hb cC; have c1 := a1.e; have c2 := a1.s; have c3 := a1.h)
        | (go_at_call 68; refine (cN _ _).mono ?_; rintro e' w' ⟨rfl, rfl⟩))
      go_ret
      exact ⟨ret_bool (by simp [g1]), h0⟩
    · have d1 : decide (0 ≤ l.h) = false := decide_eq_false g1
      go_enter Try.func96, Try.ntmps96
      go_wp2_with (first
        | (refine wpList_load_celIn rfl 29 _ rfl _ _ rfl (by with_reducible exact a1.cel) Try.underlying29 rfl (by kernel_rfl) ?_)
        | (go_at_call 17; refine (cC _).mono ?_; rintro e' w1 ⟨rfl, hb⟩; replace a1 := a1.below hb a1.lt; replace h0 := grown_below h0 hb h0.size; clear hb cC; have c1 := a1.e; have c2 := a1.s; have c3 := a1.h)
        | (go_at_call 68; refine (cN _ _).mono ?_; rintro e' w' ⟨rfl, rfl⟩))
      go_ret
      exact ⟨ret_bool (by rw [d1]; first | rfl | simp), h0⟩
  all_goals
    rw [q1] at cC
    rw [qa]
    clear q1 qa q8
    go_enter Try.func96, Try.ntmps96
    go_wp2_with (first
      | (refine wpList_load_celIn rfl 29 _ rfl _ _ rfl (by with_reducible exact a1.cel) Try.underlying29 rfl (by kernel_rfl) ?_)
      | (go_at_call 17; refine (cC _).mono ?_; rintro e' w1 ⟨rfl, hb⟩; replace a1 := a1.below hb a1.lt; replace h0 := grown_below h0 hb h0.size; clear hb cC; have c1 := a1.e; have c2 := a1.s; have c3 := a1.h)
      | (go_at_call 68; refine (cN _ _).mono ?_; rintro e' w' ⟨rfl, rfl⟩))
    go_ret
    exact ⟨rfl, h0⟩
set_option maxHeartbeats 400000 in
theorem implOkS_any (v : Value) (L : List Ly) (w : World) (hL : ltLy L) (h : SlAt eLy w w.heap.size v L) :
    Calls Try.prog 60 #[v] w fun e w' => e = .returned (.bool (okS L)) ∧ Below w.heap.size w w' := by
  obtain ⟨A, c, rfl, h1, h2, hA⟩ := h
  unfold maxLen at h2
  by_cases h8 : L.length ≤ 8
  · go_enter Try.func60, Try.ntmps60
    go_wp2
    go_loopw [10] (fun i wr => ∃ k : Nat, k ≤ L.length ∧ i = .int .i64 k ∧ (∀ j, j < k → okl (lAt L j) = true) ∧ Below w.heap.size w wr) (fun i _ => L.length - (intOf i).toNat)
    case atStart => exact ⟨0, by omega, rfl, by omega, Below.refl _ _⟩
    case round =>
      obtain ⟨k, hk, rfl, he, hb⟩ := hrel
      have HE := Lib.hid he
      clear he
      by_cases hlt : k < L.length
      · obtain ⟨b1, o1, rfl, hb1, r1⟩ := hA (by omega)
        have g1 := range_below (range_part r1 (lAt_get hlt)) hb hb1
        rw [eLy_n] at g1
        have cV := fun w => implLayer_any (lAt L k) (lAt_lt hL k) w
        clear hA r1
        cases ho : okl (lAt L k) with
        | true =>
          have HO := Lib.hid ho
          rw [ho] at cV
          clear ho
          go_wp2_with (first
            | (refine wpList_load_layIn (l := lAt L k) rfl 86 _ rfl _ _ rfl (by with_reducible exact g1) Try.underlying86 rfl (by kernel_rfl) ?_)
            | (refine wpList_store_layNew (l0 := zeroLy) (l := lAt L k) rfl 86 _ _ rfl rfl rfl (by kernel_rfl) ?_; have bn := LayAt.new wr 86 (lAt L k); replace hb := hb.alloc hb.size (.cells (LC (lAt L k)) 86); clear g1; generalize wr.alloc (.cells (LC (lAt L k)) 86) = w2 at *)
            | (refine wpList_load_lay rfl 86 _ rfl rfl (by with_reducible exact bn) Try.underlying86 rfl (by kernel_rfl) ?_)
            | (go_at_call 96; refine (cV _).mono ?_; rintro e w3 ⟨rfl, hb3⟩; replace hb := grown_below hb hb3 hb.size; clear hb3 bn cV))
          go_roundw
          case rel =>
            go_light
            refine ⟨k + 1, by omega, by go_num, ?_, hb⟩
            intro j hj
            rcases Nat.lt_succ_iff_lt_or_eq.1 hj with h | rfl
            · exact HE.out j h
            · exact HO.out
          case measure => simp [intOf]; omega
        | false =>
          have HO := Lib.hid ho
          rw [ho] at cV
          clear ho
          go_wp2_with (first
            | (refine wpList_load_layIn (l := lAt L k) rfl 86 _ rfl _ _ rfl (by with_reducible exact g1) Try.underlying86 rfl (by kernel_rfl) ?_)
            | (refine wpList_store_layNew (l0 := zeroLy) (l := lAt L k) rfl 86 _ _ rfl rfl rfl (by kernel_rfl) ?_; have bn := LayAt.new wr 86 (lAt L k); replace hb := hb.alloc hb.size (.cells (LC (lAt L k)) 86); clear g1; generalize wr.alloc (.cells (LC (lAt L k)) 86) = w2 at *)
            | (refine wpList_load_lay rfl 86 _ rfl rfl (by with_reducible exact bn) Try.underlying86 rfl (by kernel_rfl) ?_)
            | (go_at_call 96; refine (cV _).mono ?_; rintro e w3 ⟨rfl, hb3⟩; replace hb := grown_below hb hb3 hb.size; clear hb3 bn cV))
          go_ret
          exact ⟨ret_bool (okS_false_at hlt HO.out).symm, hb⟩
      · have hkl : k = L.length := by omega
        subst hkl
        clear hA
        go_wp2
        go_ret
        exact ⟨ret_bool (okS_iff.2 ⟨h8, HE.out⟩).symm, hb⟩
  · rw [okS_false_len (by omega)]
    clear hA
    go_enter Try.func60, Try.ntmps60
    go_wp2
    go_ret
    exact ⟨rfl, Below.refl _ _⟩
theorem implValidScene_any (v : Value) (L : List Ly) (w : World) (hL : ltLy L) (h : SlAt eLy w w.heap.size v L) :
    Calls Try.prog 21 #[v] w fun e w' => e = .returned (.bool (okS L)) ∧ Below w.heap.size w w' := by
  have cO := implOkS_any v L w hL h
  obtain ⟨A, c, rfl, h1, h2, hA⟩ := h
  clear hA
  go_enter Try.func21, Try.ntmps21
  go_wp2_with (go_at_call 60; refine cO.mono ?_; rintro e w' ⟨rfl, hb⟩)
  go_ret
  exact ⟨rfl, hb⟩
/-- A camera's cells. -/
def CM (x y : Int) : Array Value := #[.int .i64 x, .int .i64 y]
theorem shr3 (p : Int) : p / 2 ^ 3 = p / 8 := by rfl
set_option maxHeartbeats 400000 in
theorem partOf_any (l : Ly) (x : Int) (hl : ltLy1 l) (x1 : -100 ≤ x ∧ x ≤ 100) (a3 : 0 ≤ l.h) (a4 : l.h ≤ 8) (w : World) :
    Calls Try.prog 105 #[.agg (LC l), .int .i64 x] w fun e w' => e = .returned (.int .i64 (eig x l.h)) ∧ Below w.heap.size w w' := by
  have hb := mul_bounds8 x1.1 x1.2 a3 a4
  have a1 := LayAt.new w 86 l
  have h0 := (Below.refl w.heap.size w).alloc (Nat.le_refl _) (.cells (LC l) 86)
  have k3 := i8_i64 hl.2.2.2.2
  have c3 := a1.h
  obtain ⟨p, hp⟩ : ∃ p, x * l.h = p := ⟨_, rfl⟩
  have km : wrap64 (x * l.h) = p := by rw [hp]; exact IntWalk.wrap64_in _ (by rw [hp] at hb; omega)
  unfold eig
  rw [hp] at hb ⊢
  clear hp
  have ks : wrap64 (p / 8) = p / 8 := IntWalk.wrap64_in _ (by omega)
  have kt : IntKind.i64.wrap (p / 8) = p / 8 := IntWalk.i64_in _ (by omega)
  clear a3 a4 hb
  go_enter Try.func105, Try.ntmps105
  go_wp2
  go_ret
  exact ⟨ret_int (by first | rfl | simp [ks, kt] | omega), h0⟩
set_option maxHeartbeats 1000000 in
theorem implOffset_any (l : Ly) (x y : Int) (hl : ltLy1 l) (ho : okl l = true) (x1 : -100 ≤ x ∧ x ≤ 100) (y1 : -100 ≤ y ∧ y ≤ 100) (w : World) :
    Calls Try.prog 78 #[.agg (LC l), .agg (CM x y)] w fun e w' => e = .returned (.tuple #[.int .i64 (offE l x), .int .i64 (offS l y)]) ∧ Below w.heap.size w w' := by
  obtain ⟨_, a1, a2, a3, a4⟩ := okl_true ho
  have r := (LayAt.new w 86 l).alloc (.cells (CM x y) 108)
  have r2 := Row.new (w.alloc (.cells (LC l) 86)) 108 (CM x y)
  rw [World.size_alloc] at r2
  have h0 := ((Below.refl w.heap.size w).alloc (Nat.le_refl _) (.cells (LC l) 86)).alloc (by simp) (.cells (CM x y) 108)
  have k1 := i8_i64 hl.2.2.1
  have k2 := i8_i64 hl.2.2.2.1
  have bx := eig_bounds x1.1 x1.2 a3 a4
  have by' := eig_bounds y1.1 y1.2 a3 a4
  have cX := fun w => partOf_any l x hl x1 a3 a4 w
  have cY := fun w => partOf_any l y hl y1 a3 a4 w
  have s1 : IntKind.i64.wrap (l.e - eig x l.h) = l.e - eig x l.h := IntWalk.i64_in _ (by omega)
  have s2 : IntKind.i64.wrap (l.s - eig y l.h) = l.s - eig y l.h := IntWalk.i64_in _ (by omega)
  unfold offE offS
  generalize eig x l.h = ex at *
  generalize eig y l.h = ey at *
  have c1 := r.e
  have c2 := r.s
  have g1 := r.range
  have lt := r.lt
  have c4 : _ = some (Value.int .i64 x) := r2.cell 0
  have c5 : _ = some (Value.int .i64 y) := r2.cell 1
  clear bx by' a1 a2 a3 a4 ho r r2 hl x1 y1
  unfold CM at c1 c2 c4 c5 g1 lt h0 ⊢
  go_enter Try.func78, Try.ntmps78
  go_wp2_with fail
  generalize ((w.alloc _).alloc _) = w1 at *
  have d1 := fun dd os => cell_regrown c1 dd os
  have d2 := fun dd os => cell_regrown c2 dd os
  have d4 := fun dd os => cell_regrown c4 dd os
  have d5 := fun dd os => cell_regrown c5 dd os
  refine wp_region_calm (by kernel_rfl) (by kernel_rfl) ?_
  repeat (first | (refine wpQuiet_load_el (E := eLy) rfl 86 _ rfl _ _ rfl l (LC l) rfl (by with_reducible exact g1) lt Try.underlying86 rfl (by kernel_rfl) ?_) | quiet_step (first | with_reducible exact Calls.regrown_of (cX _) | with_reducible exact Calls.regrown_of (cY _)))
  refine wpQuiet_nil ?_
  intro w2 hb2
  go_wp2
  go_ret2
  exact ⟨rfl, grown_below h0 hb2 h0.size⟩
set_option maxHeartbeats 400000 in
theorem inRange_any (x y : Int) (w : World) :
    Calls Try.prog 76 #[.agg (CM x y)] w fun e w' => e = .returned (.bool (camB x y)) ∧ Below w.heap.size w w' := by
  have r2 := Row.new w 108 (CM x y)
  have h0 := (Below.refl w.heap.size w).alloc (Nat.le_refl _) (.cells (CM x y) 108)
  have c4 : _ = some (Value.int .i64 x) := r2.cell 0
  have c5 : _ = some (Value.int .i64 y) := r2.cell 1
  have cN := fun n w => isWithin_any n 100 w (by decide) (by decide)
  unfold CM at c4 c5 h0 ⊢
  unfold camB
  clear r2
  cases q1 : inB x (-100) 100
  all_goals
    go_enter Try.func76, Try.ntmps76
    go_wp2_with (go_at_call 104; refine (cN _ _).mono ?_; rintro e' w' ⟨rfl, rfl⟩)
    go_ret
    exact ⟨rfl, h0⟩
end Go.Proofs.Ytpmlepgnokbpaaa
