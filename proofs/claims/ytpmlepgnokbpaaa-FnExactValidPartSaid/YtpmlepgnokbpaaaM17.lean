import Derived.Test.YtpmlepgnokbpaaaRows
import Derived.Test.YtpmlepgnokbpaaaM5
import Derived.Test.YtpmlepgnokbpaaaM12
import Derived.Test.YtpmlepgnokbpaaaM15
import Derived.Test.YtpmlepgnokbpaaaM16
import Derived.Test.YtpmlepgnokbpaaaM10
import Derived.Test.YtpmlepgnokbpaaaM1
import Derived.Test.YtpmlepgnokbpaaaM6
/- spec: l05Cel, ValidCel, l05Moved, l05Over at whatever addresses. -/
namespace Go.Proofs.Ytpmlepgnokbpaaa
set_option maxRecDepth 100000
open Go.RowKit
set_option linter.unusedVariables false
set_option linter.unusedSimpArgs false
set_option maxHeartbeats 1000000 in
theorem specCel_any (b o : Nat) (i k : Nat → Nat) (hi : ∀ y, i y < 65536) (hk : ∀ y, k y < 65536) (w : World) (h : CelIn w b o i k) (lb : b < w.heap.size) :
    Calls Try.prog 53 #[.pointer (some ⟨b, o, none⟩)] w fun e w' => e = .returned (.bool (okc i k)) ∧ Below w.heap.size w w' := by
  obtain ⟨i0, hi0⟩ : ∃ i, Try.prog.info? 22 = some i := ⟨_, rfl⟩
  have cI := fun w' (hb : Below w.heap.size w w') => okAt_any b o i w' (range_below h.ink hb lb)
  have cK := fun w' (hb : Below w.heap.size w w') => okAt_any b (o + 12) k w' (range_below h.cov hb lb)
  have cL := fun w' (hb : Below w.heap.size w w') => specLessAt_any b o b (o + 12) i k hi hk w' (range_below h.ink hb lb) (Nat.lt_of_lt_of_le lb hb.size) (range_below h.cov hb lb) (Nat.lt_of_lt_of_le lb hb.size)
  have hq := fun w => run_eql_fr (P := Try.prog) w (lessF i k) zeroF Try.underlying27 (by kernel_rfl) Try.underlying22 hi0 (by kernel_rfl)
  rw [FC_zero] at hq
  have h0 := Below.refl w.heap.size w
  unfold okc
  cases h1 : okF i with
  | false =>
    rw [h1] at cI
    clear h1 hi0 hq
    go_enter Try.func53, Try.ntmps53
    go_wp2_with (go_at_call 91; refine (cI _ h0).mono ?_; rintro e' w' ⟨rfl, rfl⟩)
    go_ret
    exact ⟨rfl, h0⟩
  | true =>
    rw [h1] at cI
    cases h2 : okF k with
    | false =>
      rw [h2] at cK
      clear h1 h2 hi0 hq
      go_enter Try.func53, Try.ntmps53
      go_wp2_with (go_at_call 91; first | (refine (cI _ h0).mono ?_; clear cI; rintro e' w' ⟨rfl, rfl⟩) | (refine (cK _ h0).mono ?_; rintro e' w' ⟨rfl, rfl⟩))
      go_ret
      exact ⟨rfl, h0⟩
    | true =>
      rw [h2] at cK
      generalize eqF (lessF i k) zeroF = q at *
      clear h1 h2 hi0
      go_enter Try.func53, Try.ntmps53
      go_wp2_with (go_at_call 91; first | (refine (cI _ h0).mono ?_; clear cI; rintro e' w' ⟨rfl, rfl⟩) | (refine (cK _ h0).mono ?_; clear cK; rintro e' w' ⟨rfl, rfl⟩))
      refine wp_region_calm (by kernel_rfl) (by kernel_rfl) ?_
      repeat (quiet_step (exact Calls.regrown_of (cL _ (below_regrown _ _ _))))
      refine wpQuiet_nil ?_
      intro w3 hb3
      go_wp2
      go_ret
      exact ⟨rfl, hb3⟩
set_option maxHeartbeats 1000000 in
theorem specValidCel_any (i k : Nat → Nat) (hi : ∀ y, i y < 65536) (hk : ∀ y, k y < 65536) (w : World) :
    Calls Try.prog 15 #[.agg (CC i k)] w fun e w' => e = .returned (.bool (okc i k)) ∧ Below w.heap.size w w' := by
  have r := CelAt.new w 29 i k
  have h0 := (Below.refl w.heap.size w).alloc (Nat.le_refl _) (.cells (CC i k) 29)
  go_enter Try.func15, Try.ntmps15
  go_wp2_with (go_at_call 53; refine (specCel_any _ _ i k hi hk _ r.cells r.lt).mono ?_; rintro e' w1 ⟨rfl, hb1⟩)
  go_ret
  exact ⟨rfl, grown_below h0 hb1 h0.size⟩
set_option maxHeartbeats 1000000 in
theorem specCelMoved_any (b o : Nat) (i k : Nat → Nat) (e s : Int) (oi : okF i = true) (ok : okF k = true) (hi : ∀ y, i y < 65536) (hk : ∀ y, k y < 65536) (e1 : -200 ≤ e) (e2 : e ≤ 200) (s1 : -200 ≤ s) (s2 : s ≤ 200) (w : World) (h : CelIn w b o i k) (lb : b < w.heap.size) :
    Calls Try.prog 67 #[.pointer (some ⟨b, o, none⟩), .int .i64 e, .int .i64 s] w fun e' w' => e' = .returned (.agg (CC (movedI i e s 12) (movedI k e s 12))) ∧ Below w.heap.size w w' := by
  have r := CelAt.new w 29 zeroF zeroF
  have h0 := (Below.refl w.heap.size w).alloc (Nat.le_refl _) (.cells (CC zeroF zeroF) 29)
  have cI := fun w' (hb : Below w.heap.size w w') => specMovedAt_any b o i e s e1 e2 s1 s2 w' hi (range_below h.ink hb lb) (Nat.lt_of_lt_of_le lb hb.size)
  have cK := fun w' (hb : Below w.heap.size w w') => specMovedAt_any b (o + 12) k e s e1 e2 s1 s2 w' hk (range_below h.cov hb lb) (Nat.lt_of_lt_of_le lb hb.size)
  rw [FC_ext (moved_eq oi e s)] at cI
  rw [FC_ext (moved_eq ok e s)] at cK
  have hbl := build_cel (movedI i e s 12) (movedI k e s 12)
  rw [CC_zero] at r h0
  go_enter Try.func67, Try.ntmps67
  go_wp2_with fail
  generalize (w.alloc _) = w1 at *
  refine wp_region_tail 13 (by kernel_rfl) (by kernel_rfl) ?_
  simp only [List.take_succ_cons, List.take_zero, List.drop_succ_cons, List.drop_zero]
  repeat (first | (refine wpQuiet_build2 (u := .agg (FC (movedI i e s 12))) (v := .agg (FC (movedI k e s 12))) rfl 29 0 1 _ _ rfl rfl rfl hbl ?_) | quiet_step (first | with_reducible exact Calls.regrown_of (cI _ (grown_below h0 (below_regrown _ _ _) h0.size)) | with_reducible exact Calls.regrown_of (cK _ (grown_below h0 (below_regrown _ _ _) h0.size))))
  refine wpQuiet_nil ?_
  intro w3 hb3
  replace r := r.below hb3 r.lt
  replace h0 := grown_below h0 hb3 h0.size
  clear cI cK hb3
  go_wp2_with (refine wpList_store_cel rfl 29 _ _ rfl r rfl rfl (by kernel_rfl) ?_; intro r')
  exact bodyPost_ret_row (p := 6) (ty := 29) rfl rfl r' Try.underlying29 rfl (by kernel_rfl) rfl ⟨rfl, below_setRow h0 (Nat.le_refl _) _⟩
end Go.Proofs.Ytpmlepgnokbpaaa

/- A cell, read in a region that draws its order. -/
namespace Go.Proofs.Ytpmlepgnokbpaaa
open Go.RowKit Go.Sort
theorem cell_q {w : World} {b o : Nat} {v : Value} (h : w.cell? ⟨b, o, none⟩ = some v) (p : Regrown) : (grow (redrawn w p.d) p.os).cell? ⟨b, o, none⟩ = some v :=
  (World.cell?_of_block (w := w) (a := ⟨b, o, none⟩) ((below_regrown w p.d p.os).block _ (World.block_lt_of_cell? w _ h))).trans h
theorem to_below {P : Program} {f : FuncId} {args : Array Value} {w : World} {E : Ending} (h : Calls P f args w fun e w' => e = E ∧ w = w') : Calls P f args w fun e w' => e = E ∧ Below w.heap.size w w' :=
  h.mono fun _ _ ⟨h1, h2⟩ => ⟨h1, h2 ▸ Below.refl _ _⟩
end Go.Proofs.Ytpmlepgnokbpaaa

/- spec: l05Eighths, l05Layer, l05Ok, ValidScene, l05Camera, l05Offset. -/
namespace Go.Proofs.Ytpmlepgnokbpaaa
set_option maxRecDepth 100000
open Go.RowKit
set_option linter.unusedVariables false
set_option linter.unusedSimpArgs false
theorem i8_i64 {z : Int} (h : -128 ≤ z ∧ z ≤ 127) : IntKind.i64.wrap z = z := IntWalk.i64_in _ (by omega)
theorem tdiv8_neg {p : Int} (h : p < 0) : p.tdiv 8 = -((-p) / 8) := by
  obtain ⟨q, rfl⟩ : ∃ q : Int, p = -q := ⟨-p, by omega⟩
  rw [Int.neg_tdiv, Int.tdiv_eq_ediv_of_nonneg (by omega), Int.neg_neg]
theorem tmod8_neg {p : Int} (h : p < 0) : p.tmod 8 = -((-p) % 8) := by
  obtain ⟨q, rfl⟩ : ∃ q : Int, p = -q := ⟨-p, by omega⟩
  rw [Int.neg_tmod, Int.tmod_eq_emod_of_nonneg (by omega), Int.neg_neg]
set_option maxHeartbeats 400000 in
theorem specEighths_any (n h : Int) (h1 : -100 ≤ n) (h2 : n ≤ 100) (h3 : 0 ≤ h) (h4 : h ≤ 8) (w : World) :
    Calls Try.prog 103 #[.int .i64 n, .int .i64 h] w fun e w' => e = .returned (.int .i64 (eig n h)) ∧ w = w' := by
  have hb := mul_bounds8 h1 h2 h3 h4
  obtain ⟨p, hp⟩ : ∃ p, n * h = p := ⟨_, rfl⟩
  have km : wrap64 (n * h) = p := by rw [hp]; exact IntWalk.wrap64_in _ (by rw [hp] at hb; omega)
  unfold eig
  rw [hp] at hb ⊢
  clear hp
  by_cases hp : p < 0
  · have hd : decide (p < 0) = true := decide_eq_true hp
    have t1 := tdiv8_neg hp
    have t2 := tmod8_neg hp
    have b1 : -100 ≤ p.tdiv 8 ∧ p.tdiv 8 ≤ 0 := by omega
    have kq : wrap64 (p.tdiv 8) = p.tdiv 8 := IntWalk.wrap64_in _ (by omega)
    have kr : wrap64 (p.tmod 8) = p.tmod 8 := IntWalk.wrap64_in _ (by omega)
    have ks : IntKind.i64.wrap (p.tdiv 8 - 1) = p.tdiv 8 - 1 := IntWalk.i64_in _ (by omega)
    by_cases hr : p.tmod 8 = 0
    · have e1 : (p.tmod 8 != 0) = false := by simp [hr]
      have E2 := Lib.hid (show p.tdiv 8 = p / 8 by omega)
      clear hr t1 t2 b1
      go_enter Try.func103, Try.ntmps103
      go_wp2
      go_ret
      exact ⟨ret_int (by first | exact E2.out | simp [kq, E2.out] | omega), rfl⟩
    · have e1 : (p.tmod 8 != 0) = true := by simp [hr]
      have E2 := Lib.hid (show p.tdiv 8 - 1 = p / 8 by omega)
      clear hr t1 t2 b1
      go_enter Try.func103, Try.ntmps103
      go_wp2
      go_ret
      exact ⟨ret_int (by first | exact E2.out | simp [kq, E2.out] | omega), rfl⟩
  · have hd : decide (p < 0) = false := decide_eq_false hp
    have e2 : p.tdiv 8 = p / 8 := Int.tdiv_eq_ediv_of_nonneg (by omega)
    have kq : wrap64 (p.tdiv 8) = p.tdiv 8 := IntWalk.wrap64_in _ (by omega)
    have E2 := Lib.hid e2
    clear e2
    go_enter Try.func103, Try.ntmps103
    go_wp2
    go_ret
    exact ⟨ret_int (by first | exact E2.out | simp [kq, E2.out] | omega), rfl⟩
set_option maxHeartbeats 1000000 in
theorem specLayer_any (b o : Nat) (l : Ly) (hl : ltLy1 l) (w : World) (h : LayIn w b o l) (lb : b < w.heap.size) :
    Calls Try.prog 94 #[.pointer (some ⟨b, o, none⟩)] w fun e w' => e = .returned (.bool (okl l)) ∧ Below w.heap.size w w' := by
  obtain ⟨hi, hk, he, hs, hh⟩ := hl
  have cC := fun w' (h : LayIn w' b o l) (lb : b < w'.heap.size) => specCel_any b o l.i l.k hi hk w' h.cel lb
  have k1 := i8_i64 he
  have k2 := i8_i64 hs
  have k3 := i8_i64 hh
  have h0 := Below.refl w.heap.size w
  rcases okl_cases l with ⟨q1, qa⟩ | ⟨q1, q2, qa⟩ | ⟨q1, q2, q3, qa⟩ | ⟨q1, q2, q3, qa⟩
  all_goals
    rw [q1] at cC
    rw [qa]
    have cN := fun n a b w => in_any n a b w
    clear q1 qa
    go_enter Try.func94, Try.ntmps94
    go_wp2_with (first
      | (go_at_call 53; refine (cC _ h lb).mono ?_; rintro e' w1 ⟨rfl, hb⟩; replace h := h.below hb lb; replace h0 := grown_below h0 hb h0.size; clear hb cC; have c1 := h.e; have c2 := h.s; have c3 := h.h)
      | (go_at_call 73; refine (cN _ _ _ _).mono ?_; rintro e' w' ⟨rfl, rfl⟩))
    go_ret
    exact ⟨rfl, h0⟩
set_option maxHeartbeats 400000 in
theorem specOkS_any (v : Value) (L : List Ly) (w : World) (hL : ltLy L) (h : SlAt eLy w w.heap.size v L) :
    Calls Try.prog 56 #[v] w fun e w' => e = .returned (.bool (okS L)) ∧ Below w.heap.size w w' := by
  obtain ⟨A, c, rfl, h1, h2, hA⟩ := h
  unfold maxLen at h2
  go_enter Try.func56, Try.ntmps56
  go_wp2
  go_loopw [3] (fun i wr => ∃ k : Nat, k ≤ L.length ∧ i = .int .i64 k ∧ (∀ j, j < k → okl (lAt L j) = true) ∧ Below w.heap.size w wr) (fun i _ => L.length - (intOf i).toNat)
  case atStart => exact ⟨0, by omega, rfl, by omega, Below.refl _ _⟩
  case round =>
    obtain ⟨k, hk, rfl, he, hb⟩ := hrel
    have HE := Lib.hid he
    clear he
    by_cases hlt : k < L.length
    · obtain ⟨b1, o1, rfl, hb1, r1⟩ := hA (by omega)
      have g1 := range_below (range_part r1 (lAt_get hlt)) hb hb1
      rw [eLy_n] at g1
      have l1 : b1 < wr.heap.size := Nat.lt_of_lt_of_le hb1 hb.size
      have cV := specLayer_any b1 (o1 + k * 27) (lAt L k) (lAt_lt hL k) wr (layIn g1) l1
      clear hA r1 g1
      cases ho : okl (lAt L k) with
      | true =>
        have HO := Lib.hid ho
        rw [ho] at cV
        clear ho
        go_wp2_with (go_at_call 94; refine cV.mono ?_; rintro e w3 ⟨rfl, hb3⟩; replace hb := grown_below hb hb3 hb.size; clear hb3 cV)
        go_roundw
        case rel =>
          go_light
          refine ⟨k + 1, by omega, by go_num, ?_, hb⟩
          intro j hj
          rcases Nat.lt_succ_iff_lt_or_eq.1 hj with h | rfl
          · exact HE.out j h
          · exact HO.out
        case measure => simp [intOf]; omega
      | false =>
        have HO := Lib.hid ho
        rw [ho] at cV
        clear ho
        go_wp2_with (go_at_call 94; refine cV.mono ?_; rintro e w3 ⟨rfl, hb3⟩; replace hb := grown_below hb hb3 hb.size; clear hb3 cV)
        go_ret
        exact ⟨ret_bool (okS_false_at hlt HO.out).symm, hb⟩
    · have hkl : k = L.length := by omega
      subst hkl
      clear hA
      go_wp2
      go_ret
      refine ⟨ret_bool ?_, hb⟩
      by_cases h8 : L.length ≤ 8
      · rw [okS_iff.2 ⟨h8, HE.out⟩]; simp; omega
      · rw [okS_false_len (by omega)]; simp; omega
theorem specValidScene_any (v : Value) (L : List Ly) (w : World) (hL : ltLy L) (h : SlAt eLy w w.heap.size v L) :
    Calls Try.prog 19 #[v] w fun e w' => e = .returned (.bool (okS L)) ∧ Below w.heap.size w w' := by
  have cO := specOkS_any v L w hL h
  obtain ⟨A, c, rfl, h1, h2, hA⟩ := h
  clear hA
  go_enter Try.func19, Try.ntmps19
  go_wp2_with (go_at_call 56; refine cO.mono ?_; rintro e w' ⟨rfl, hb⟩)
  go_ret
  exact ⟨rfl, hb⟩
set_option maxHeartbeats 400000 in
theorem specCamera_any (v : Value) (L : List Ly) (x y : Int) (w : World) (hL : ltLy L) (h : SlAt eLy w w.heap.size v L) :
    Calls Try.prog 72 #[v, .int .i64 x, .int .i64 y] w fun e w' => e = .returned (.int .i64 (camC L x y)) ∧ Below w.heap.size w w' := by
  have cO := specOkS_any v L w hL h
  obtain ⟨A, c, rfl, h1, h2, hA⟩ := h
  clear hA
  have cN := fun n a b w => in_any n a b w
  rcases camC_cases L x y with ⟨q1, qa⟩ | ⟨q1, q2, qa⟩ | ⟨q1, q2, q3, qa⟩ | ⟨q1, q2, q3, qa⟩
  all_goals
    rw [q1] at cO
    rw [qa]
    clear q1 qa
    go_enter Try.func72, Try.ntmps72
    go_wp2_with (first | (go_at_call 56; refine cO.mono ?_; rintro e w' ⟨rfl, hb⟩) | (go_at_call 73; refine (cN _ _ _ _).mono ?_; rintro e' w' ⟨rfl, rfl⟩))
    go_ret
    exact ⟨rfl, hb⟩
set_option maxHeartbeats 1000000 in
theorem specOffset_any (b o : Nat) (l : Ly) (x y : Int) (hl : ltLy1 l) (ho : okl l = true) (x1 : -100 ≤ x ∧ x ≤ 100) (y1 : -100 ≤ y ∧ y ≤ 100) (w : World) (h : LayIn w b o l) (lb : b < w.heap.size) :
    Calls Try.prog 74 #[.pointer (some ⟨b, o, none⟩), .int .i64 x, .int .i64 y] w fun e w' => e = .returned (.tuple #[.int .i64 (offE l x), .int .i64 (offS l y)]) ∧ Below w.heap.size w w' := by
  obtain ⟨hi, hk, he, hs, hh⟩ := hl
  obtain ⟨_, a1, a2, a3, a4⟩ := okl_true ho
  have k1 := i8_i64 he
  have k2 := i8_i64 hs
  have k3 := i8_i64 hh
  have bx := eig_bounds x1.1 x1.2 a3 a4
  have by' := eig_bounds y1.1 y1.2 a3 a4
  have cX := fun w => to_below (specEighths_any x l.h x1.1 x1.2 a3 a4 w)
  have cY := fun w => to_below (specEighths_any y l.h y1.1 y1.2 a3 a4 w)
  have s1 : IntKind.i64.wrap (l.e - eig x l.h) = l.e - eig x l.h := IntWalk.i64_in _ (by omega)
  have s2 : IntKind.i64.wrap (l.s - eig y l.h) = l.s - eig y l.h := IntWalk.i64_in _ (by omega)
  unfold offE offS
  generalize eig x l.h = ex at *
  generalize eig y l.h = ey at *
  have c1 := h.e
  have c2 := h.s
  have c3 := h.h
  have h0 := Below.refl w.heap.size w
  clear bx by' a1 a2 a3 a4 he hs hh hi hk ho h
  go_enter Try.func74, Try.ntmps74
  go_wp2_with fail
  have d1 := fun dd os => cell_regrown c1 dd os
  have d3 := fun dd os => cell_regrown c3 dd os
  refine wp_region_calm (by kernel_rfl) (by kernel_rfl) ?_
  repeat (quiet_step (first | with_reducible exact Calls.regrown_of (cX _) | with_reducible exact Calls.regrown_of (cY _)))
  refine wpQuiet_nil ?_
  intro w1 hb1
  replace c2 := (World.cell?_of_block (w := w) (hb1.block b lb)).trans c2
  replace c3 := (World.cell?_of_block (w := w) (hb1.block b lb)).trans c3
  replace h0 := grown_below h0 hb1 h0.size
  clear c1 d1 d3 hb1
  go_wp2_with fail
  have d2 := fun dd os => cell_regrown c2 dd os
  have d3 := fun dd os => cell_regrown c3 dd os
  refine wp_region_calm (by kernel_rfl) (by kernel_rfl) ?_
  repeat (quiet_step (first | with_reducible exact Calls.regrown_of (cX _) | with_reducible exact Calls.regrown_of (cY _)))
  refine wpQuiet_nil ?_
  intro w2 hb2
  go_wp2
  go_ret2
  exact ⟨rfl, grown_below h0 hb2 h0.size⟩
end Go.Proofs.Ytpmlepgnokbpaaa
