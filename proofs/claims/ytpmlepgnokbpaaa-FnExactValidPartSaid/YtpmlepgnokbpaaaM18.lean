import Derived.Test.YtpmlepgnokbpaaaM12
import Derived.Test.YtpmlepgnokbpaaaM14
import Derived.Test.YtpmlepgnokbpaaaM13
import Derived.Test.YtpmlepgnokbpaaaM7
import Derived.Test.YtpmlepgnokbpaaaM17
import Derived.Test.YtpmlepgnokbpaaaM1
import Derived.OrdersHeld
import Derived.Deep.RegionHeld
/- impl: Layer.isValid, Scene.isValid, ValidScene, slices.Equal of scenes, SameScene, Layer.partOf, Layer.offset, camera.inRange, Scene.hasLayer, checkScene. -/
namespace Go.Proofs.Ytpmlepgnokbpaaa
set_option maxRecDepth 100000
open Go.RowKit
set_option linter.unusedVariables false
set_option linter.unusedSimpArgs false
set_option maxHeartbeats 1000000 in
theorem implLayer_any (l : Ly) (hl : ltLy1 l) (w : World) :
    Calls Try.prog 96 #[.agg (LC l)] w fun e w' => e = .returned (.bool (okl l)) ∧ Below w.heap.size w w' := by
  obtain ⟨hi, hk, he, hs, hh⟩ := hl
  have a1 := LayAt.new w 86 l
  have h0 := (Below.refl w.heap.size w).alloc (Nat.le_refl _) (.cells (LC l) 86)
  have cC := fun w' => implValidCel_any l.i l.k hi hk w'
  have cN := fun n w => isMove_any n w
  have k1 := i8_i64 he
  have k2 := i8_i64 hs
  have q8 : inB l.h 0 8 = (decide (0 ≤ l.h) && decide (l.h ≤ 8)) := by unfold inB; rw [Bool.decide_and]
  rcases okl_cases l with ⟨q1, qa⟩ | ⟨q1, q2, qa⟩ | ⟨q1, q2, q3, qa⟩ | ⟨q1, q2, q3, qa⟩
  case inr.inr.inr =>
    rw [q1] at cC
    rw [qa, q8]
    clear q1 qa q8
    by_cases g1 : 0 ≤ l.h
    · have d1 : decide (0 ≤ l.h) = true := decide_eq_true g1
      go_enter Try.func96, Try.ntmps96
      go_wp2_with (first
        | (refine wpList_load_celIn rfl 29 _ rfl _ _ rfl (by with_reducible exact a1.cel) Try.underlying29 rfl (by kernel_rfl) ?_)
        | (go_at_call 17; refine (cC _).mono ?_; rintro e' w1 ⟨rfl, hb⟩; replace a1 := a1.below hb a1.lt; replace h0 := grown_below h0 hb h0.size; clear hb cC; have c1 := a1.e; have c2 := a1.s; have c3 := a1.h)
        | (go_at_call 68; refine (cN _ _).mono ?_; rintro e' w' ⟨rfl, rfl⟩))
      go_ret
      exact ⟨ret_bool (by simp [g1]), h0⟩
    · have d1 : decide (0 ≤ l.h) = false := decide_eq_false g1
      go_enter Try.func96, Try.ntmps96
      go_wp2_with (first
        | (refine wpList_load_celIn rfl 29 _ rfl _ _ rfl (by with_reducible exact a1.cel) Try.underlying29 rfl (by kernel_rfl) ?_)
        | (go_at_call 17; refine (cC _).mono ?_; rintro e' w1 ⟨rfl, hb⟩; replace a1 := a1.below hb a1.lt; replace h0 := grown_below h0 hb h0.size; clear hb cC; have c1 := a1.e; have c2 := a1.s; have c3 := a1.h)
        | (go_at_call 68; refine (cN _ _).mono ?_; rintro e' w' ⟨rfl, rfl⟩))
      go_ret
      exact ⟨ret_bool (by rw [d1]; first | rfl | simp), h0⟩
  all_goals
    rw [q1] at cC
    rw [qa]
    clear q1 qa q8
    go_enter Try.func96, Try.ntmps96
    go_wp2_with (first
      | (refine wpList_load_celIn rfl 29 _ rfl _ _ rfl (by with_reducible exact a1.cel) Try.underlying29 rfl (by kernel_rfl) ?_)
      | (go_at_call 17; refine (cC _).mono ?_; rintro e' w1 ⟨rfl, hb⟩; replace a1 := a1.below hb a1.lt; replace h0 := grown_below h0 hb h0.size; clear hb cC; have c1 := a1.e; have c2 := a1.s; have c3 := a1.h)
      | (go_at_call 68; refine (cN _ _).mono ?_; rintro e' w' ⟨rfl, rfl⟩))
    go_ret
    exact ⟨rfl, h0⟩
set_option maxHeartbeats 400000 in
theorem implOkS_any (v : Value) (L : List Ly) (w : World) (hL : ltLy L) (h : SlAt eLy w w.heap.size v L) :
    Calls Try.prog 60 #[v] w fun e w' => e = .returned (.bool (okS L)) ∧ Below w.heap.size w w' := by
  obtain ⟨A, c, rfl, h1, h2, hA⟩ := h
  unfold maxLen at h2
  by_cases h8 : L.length ≤ 8
  · go_enter Try.func60, Try.ntmps60
    go_wp2
    go_loopw [10] (fun i wr => ∃ k : Nat, k ≤ L.length ∧ i = .int .i64 k ∧ (∀ j, j < k → okl (lAt L j) = true) ∧ Below w.heap.size w wr) (fun i _ => L.length - (intOf i).toNat)
    case atStart => exact ⟨0, by omega, rfl, by omega, Below.refl _ _⟩
    case round =>
      obtain ⟨k, hk, rfl, he, hb⟩ := hrel
      have HE := Lib.hid he
      clear he
      by_cases hlt : k < L.length
      · obtain ⟨b1, o1, rfl, hb1, r1⟩ := hA (by omega)
        have g1 := range_below (range_part r1 (lAt_get hlt)) hb hb1
        rw [eLy_n] at g1
        have cV := fun w => implLayer_any (lAt L k) (lAt_lt hL k) w
        clear hA r1
        cases ho : okl (lAt L k) with
        | true =>
          have HO := Lib.hid ho
          rw [ho] at cV
          clear ho
          go_wp2_with (first
            | (refine wpList_load_layIn (l := lAt L k) rfl 86 _ rfl _ _ rfl (by with_reducible exact g1) Try.underlying86 rfl (by kernel_rfl) ?_)
            | (refine wpList_store_layNew (l0 := zeroLy) (l := lAt L k) rfl 86 _ _ rfl rfl rfl (by kernel_rfl) ?_; have bn := LayAt.new wr 86 (lAt L k); replace hb := hb.alloc hb.size (.cells (LC (lAt L k)) 86); clear g1; generalize wr.alloc (.cells (LC (lAt L k)) 86) = w2 at *)
            | (refine wpList_load_lay rfl 86 _ rfl rfl (by with_reducible exact bn) Try.underlying86 rfl (by kernel_rfl) ?_)
            | (go_at_call 96; refine (cV _).mono ?_; rintro e w3 ⟨rfl, hb3⟩; replace hb := grown_below hb hb3 hb.size; clear hb3 bn cV))
          go_roundw
          case rel =>
            go_light
            refine ⟨k + 1, by omega, by go_num, ?_, hb⟩
            intro j hj
            rcases Nat.lt_succ_iff_lt_or_eq.1 hj with h | rfl
            · exact HE.out j h
            · exact HO.out
          case measure => simp [intOf]; omega
        | false =>
          have HO := Lib.hid ho
          rw [ho] at cV
          clear ho
          go_wp2_with (first
            | (refine wpList_load_layIn (l := lAt L k) rfl 86 _ rfl _ _ rfl (by with_reducible exact g1) Try.underlying86 rfl (by kernel_rfl) ?_)
            | (refine wpList_store_layNew (l0 := zeroLy) (l := lAt L k) rfl 86 _ _ rfl rfl rfl (by kernel_rfl) ?_; have bn := LayAt.new wr 86 (lAt L k); replace hb := hb.alloc hb.size (.cells (LC (lAt L k)) 86); clear g1; generalize wr.alloc (.cells (LC (lAt L k)) 86) = w2 at *)
            | (refine wpList_load_lay rfl 86 _ rfl rfl (by with_reducible exact bn) Try.underlying86 rfl (by kernel_rfl) ?_)
            | (go_at_call 96; refine (cV _).mono ?_; rintro e w3 ⟨rfl, hb3⟩; replace hb := grown_below hb hb3 hb.size; clear hb3 bn cV))
          go_ret
          exact ⟨ret_bool (okS_false_at hlt HO.out).symm, hb⟩
      · have hkl : k = L.length := by omega
        subst hkl
        clear hA
        go_wp2
        go_ret
        exact ⟨ret_bool (okS_iff.2 ⟨h8, HE.out⟩).symm, hb⟩
  · rw [okS_false_len (by omega)]
    clear hA
    go_enter Try.func60, Try.ntmps60
    go_wp2
    go_ret
    exact ⟨rfl, Below.refl _ _⟩
theorem implValidScene_any (v : Value) (L : List Ly) (w : World) (hL : ltLy L) (h : SlAt eLy w w.heap.size v L) :
    Calls Try.prog 21 #[v] w fun e w' => e = .returned (.bool (okS L)) ∧ Below w.heap.size w w' := by
  have cO := implOkS_any v L w hL h
  obtain ⟨A, c, rfl, h1, h2, hA⟩ := h
  clear hA
  go_enter Try.func21, Try.ntmps21
  go_wp2_with (go_at_call 60; refine cO.mono ?_; rintro e w' ⟨rfl, hb⟩)
  go_ret
  exact ⟨rfl, hb⟩
/-- A camera's cells. -/
def CM (x y : Int) : Array Value := #[.int .i64 x, .int .i64 y]
theorem shr3 (p : Int) : p / 2 ^ 3 = p / 8 := by rfl
set_option maxHeartbeats 400000 in
theorem partOf_any (l : Ly) (x : Int) (hl : ltLy1 l) (x1 : -100 ≤ x ∧ x ≤ 100) (a3 : 0 ≤ l.h) (a4 : l.h ≤ 8) (w : World) :
    Calls Try.prog 105 #[.agg (LC l), .int .i64 x] w fun e w' => e = .returned (.int .i64 (eig x l.h)) ∧ Below w.heap.size w w' := by
  have hb := mul_bounds8 x1.1 x1.2 a3 a4
  have a1 := LayAt.new w 86 l
  have h0 := (Below.refl w.heap.size w).alloc (Nat.le_refl _) (.cells (LC l) 86)
  have k3 := i8_i64 hl.2.2.2.2
  have c3 := a1.h
  obtain ⟨p, hp⟩ : ∃ p, x * l.h = p := ⟨_, rfl⟩
  have km : wrap64 (x * l.h) = p := by rw [hp]; exact IntWalk.wrap64_in _ (by rw [hp] at hb; omega)
  unfold eig
  rw [hp] at hb ⊢
  clear hp
  have ks : wrap64 (p / 8) = p / 8 := IntWalk.wrap64_in _ (by omega)
  have kt : IntKind.i64.wrap (p / 8) = p / 8 := IntWalk.i64_in _ (by omega)
  clear a3 a4 hb
  go_enter Try.func105, Try.ntmps105
  go_wp2
  go_ret
  exact ⟨ret_int (by first | rfl | simp [ks, kt] | omega), h0⟩
set_option maxHeartbeats 1000000 in
theorem implOffset_any (l : Ly) (x y : Int) (hl : ltLy1 l) (ho : okl l = true) (x1 : -100 ≤ x ∧ x ≤ 100) (y1 : -100 ≤ y ∧ y ≤ 100) (w : World) :
    Calls Try.prog 78 #[.agg (LC l), .agg (CM x y)] w fun e w' => e = .returned (.tuple #[.int .i64 (offE l x), .int .i64 (offS l y)]) ∧ Below w.heap.size w w' := by
  obtain ⟨_, a1, a2, a3, a4⟩ := okl_true ho
  have r := (LayAt.new w 86 l).alloc (.cells (CM x y) 108)
  have r2 := Row.new (w.alloc (.cells (LC l) 86)) 108 (CM x y)
  rw [World.size_alloc] at r2
  have h0 := ((Below.refl w.heap.size w).alloc (Nat.le_refl _) (.cells (LC l) 86)).alloc (by simp) (.cells (CM x y) 108)
  have k1 := i8_i64 hl.2.2.1
  have k2 := i8_i64 hl.2.2.2.1
  have bx := eig_bounds x1.1 x1.2 a3 a4
  have by' := eig_bounds y1.1 y1.2 a3 a4
  have cX := fun w => partOf_any l x hl x1 a3 a4 w
  have cY := fun w => partOf_any l y hl y1 a3 a4 w
  have s1 : IntKind.i64.wrap (l.e - eig x l.h) = l.e - eig x l.h := IntWalk.i64_in _ (by omega)
  have s2 : IntKind.i64.wrap (l.s - eig y l.h) = l.s - eig y l.h := IntWalk.i64_in _ (by omega)
  unfold offE offS
  generalize eig x l.h = ex at *
  generalize eig y l.h = ey at *
  have c1 := r.e
  have c2 := r.s
  have g1 := r.range
  have lt := r.lt
  have c4 : _ = some (Value.int .i64 x) := r2.cell 0
  have c5 : _ = some (Value.int .i64 y) := r2.cell 1
  clear bx by' a1 a2 a3 a4 ho r r2 hl x1 y1
  unfold CM at c1 c2 c4 c5 g1 lt h0 ⊢
  go_enter Try.func78, Try.ntmps78
  go_wp2_with fail
  generalize ((w.alloc _).alloc _) = w1 at *
  have d1 := fun dd os => cell_regrown c1 dd os
  have d2 := fun dd os => cell_regrown c2 dd os
  have d4 := fun dd os => cell_regrown c4 dd os
  have d5 := fun dd os => cell_regrown c5 dd os
  refine wp_region_calm (by kernel_rfl) (by kernel_rfl) ?_
  repeat (first | (refine wpQuiet_load_el (E := eLy) rfl 86 _ rfl _ _ rfl l (LC l) rfl (by with_reducible exact g1) lt Try.underlying86 rfl (by kernel_rfl) ?_) | quiet_step (first | with_reducible exact Calls.regrown_of (cX _) | with_reducible exact Calls.regrown_of (cY _)))
  refine wpQuiet_nil ?_
  intro w2 hb2
  go_wp2
  go_ret2
  exact ⟨rfl, grown_below h0 hb2 h0.size⟩
set_option maxHeartbeats 400000 in
theorem inRange_any (x y : Int) (w : World) :
    Calls Try.prog 76 #[.agg (CM x y)] w fun e w' => e = .returned (.bool (camB x y)) ∧ Below w.heap.size w w' := by
  have r2 := Row.new w 108 (CM x y)
  have h0 := (Below.refl w.heap.size w).alloc (Nat.le_refl _) (.cells (CM x y) 108)
  have c4 : _ = some (Value.int .i64 x) := r2.cell 0
  have c5 : _ = some (Value.int .i64 y) := r2.cell 1
  have cN := fun n w => isWithin_any n 100 w (by decide) (by decide)
  unfold CM at c4 c5 h0 ⊢
  unfold camB
  clear r2
  cases q1 : inB x (-100) 100
  all_goals
    go_enter Try.func76, Try.ntmps76
    go_wp2_with (go_at_call 104; refine (cN _ _).mono ?_; rintro e' w' ⟨rfl, rfl⟩)
    go_ret
    exact ⟨rfl, h0⟩
end Go.Proofs.Ytpmlepgnokbpaaa

/- OffsetAt: spec and impl; Scene.hasLayer, checkScene. -/
namespace Go.Proofs.Ytpmlepgnokbpaaa
set_option maxRecDepth 100000
open Go.RowKit
set_option linter.unusedVariables false
set_option linter.unusedSimpArgs false
def ofC (L : List Ly) (q x y : Int) : Int := if okS L then (if camB x y && inB q 0 ((L.length : Int) - 1) then 0 else 2) else 1
def ofE (L : List Ly) (q x y : Int) : Int := if ofC L q x y = 0 then offE (lAt L q.toNat) x else 0
def ofS (L : List Ly) (q x y : Int) : Int := if ofC L q x y = 0 then offS (lAt L q.toNat) y else 0
theorem ofC_cases (L : List Ly) (q x y : Int) : (camC L x y = 1 ∧ okS L = false ∧ ofC L q x y = 1) ∨ (camC L x y = 2 ∧ okS L = true ∧ camB x y = false ∧ ofC L q x y = 2) ∨ (camC L x y = 0 ∧ okS L = true ∧ camB x y = true ∧ inB q 0 ((L.length : Int) - 1) = false ∧ ofC L q x y = 2) ∨ (camC L x y = 0 ∧ okS L = true ∧ camB x y = true ∧ inB q 0 ((L.length : Int) - 1) = true ∧ ofC L q x y = 0) := by
  unfold ofC camC; cases okS L <;> cases camB x y <;> cases inB q 0 ((L.length : Int) - 1) <;> simp
theorem camB_iff {x y : Int} (h : camB x y = true) : (-100 ≤ x ∧ x ≤ 100) ∧ -100 ≤ y ∧ y ≤ 100 := by
  unfold camB at h
  simp only [Bool.and_eq_true, inB_iff] at h
  exact h
set_option maxHeartbeats 1000000 in
theorem specOffsetAt_any (v : Value) (L : List Ly) (q x y : Int) (w : World) (hL : ltLy L) (hq : (Lit.int .i64 q).wf = true) (h : SlAt eLy w w.heap.size v L) :
    Calls Try.prog 36 #[v, .int .i64 q, .int .i64 x, .int .i64 y] w fun e w' => e = .returned (.tuple #[.int .i64 (ofE L q x y), .int .i64 (ofS L q x y), .int .i64 (ofC L q x y)]) ∧ Below w.heap.size w w' := by
  have cC := specCamera_any v L x y w hL h
  obtain ⟨A, c, rfl, h1, h2, hA⟩ := h
  unfold maxLen at h2
  have cN := fun n a b w => in_any n a b w
  have k1 : IntKind.i64.wrap ((L.length : Int) - 1) = (L.length : Int) - 1 := IntWalk.i64_in _ (by omega)
  unfold ofE ofS
  rcases ofC_cases L q x y with ⟨q1, q2, qa⟩ | ⟨q1, q2, q3, qa⟩ | ⟨q1, q2, q3, q4, qa⟩ | ⟨q1, q2, q3, q4, qa⟩
  case inr.inr.inr =>
    rw [q1] at cC
    rw [qa, if_pos rfl, if_pos rfl]
    have iq := inB_iff.1 q4
    obtain ⟨n, rfl⟩ : ∃ n : Nat, q = (n : Int) := ⟨q.toNat, by omega⟩
    rw [Int.toNat_natCast]
    have hn : n < L.length := by omega
    obtain ⟨b1, o1, rfl, hb1, r1⟩ := hA (by omega)
    have g1 := range_part r1 (lAt_get hn)
    rw [eLy_n] at g1
    obtain ⟨cx, cy⟩ := camB_iff q3
    have ol := (okS_iff.1 q2).2 n hn
    have cO := fun w' (h : LayIn w' b1 (o1 + n * 27) (lAt L n)) lb => specOffset_any b1 (o1 + n * 27) (lAt L n) x y (lAt_lt hL n) ol cx cy w' h lb
    have G1 := layIn g1
    clear q1 q2 q3 qa hA r1 g1 cx cy ol
    go_enter Try.func36, Try.ntmps36
    go_wp2_with (first
      | (go_at_call 72; refine cC.mono ?_; rintro e w1 ⟨rfl, hb⟩; have G2 := G1.below hb hb1; have l2 := Nat.lt_of_lt_of_le hb1 hb.size; clear cC G1)
      | (go_at_call 73; refine (cN _ _ _ _).mono ?_; rintro e' w' ⟨rfl, rfl⟩)
      | (go_at_call 74; refine (cO _ G2 l2).mono ?_; rintro e w2 ⟨rfl, hb2⟩; replace hb := grown_below hb hb2 hb.size; clear hb2))
    go_ret3
    exact ⟨rfl, hb⟩
  all_goals
    rw [q1] at cC
    rw [qa, if_neg (by decide), if_neg (by decide)]
    clear q1 qa hA
    go_enter Try.func36, Try.ntmps36
    go_wp2_with (first
      | (go_at_call 72; refine cC.mono ?_; rintro e w1 ⟨rfl, hb⟩; clear cC)
      | (go_at_call 73; refine (cN _ _ _ _).mono ?_; rintro e' w' ⟨rfl, rfl⟩))
    go_ret3
    exact ⟨rfl, hb⟩
set_option maxHeartbeats 400000 in
theorem hasLayer_any (A : Option Addr) (n c : Nat) (q : Int) (w : World) (hn : n ≤ maxLen) :
    Calls Try.prog 77 #[.slice A n c, .int .i64 q] w fun e w' => e = .returned (.bool (inB q 0 ((n : Int) - 1))) ∧ w = w' := by
  unfold maxLen at hn
  have e : inB q 0 ((n : Int) - 1) = (decide (0 ≤ q) && decide (q < (n : Int))) := by
    unfold inB
    rw [← Bool.decide_and]
    congr 1
    apply propext
    omega
  rw [e]
  clear e
  by_cases h0 : 0 ≤ q
  · have d0 : decide (0 ≤ q) = true := decide_eq_true h0
    rw [d0]
    go_enter Try.func77, Try.ntmps77
    go_wp2
    go_ret
    exact ⟨ret_bool (by simp), rfl⟩
  · have d0 : decide (0 ≤ q) = false := decide_eq_false h0
    rw [d0]
    go_enter Try.func77, Try.ntmps77
    go_wp2
    go_ret
    exact ⟨ret_bool (by simp), rfl⟩
def chC (L : List Ly) (b : Bool) : Int := if okS L then (if b then 0 else 2) else 1
theorem checkScene_any (v : Value) (L : List Ly) (b : Bool) (w : World) (hL : ltLy L) (h : SlAt eLy w w.heap.size v L) :
    Calls Try.prog 75 #[v, .bool b] w fun e w' => e = .returned (.int .i64 (chC L b)) ∧ Below w.heap.size w w' := by
  have cO := implValidScene_any v L w hL h
  obtain ⟨A, c, rfl, h1, h2, hA⟩ := h
  clear hA
  unfold chC
  cases hS : okS L <;> rw [hS] at cO <;> clear hS <;> cases b
  all_goals
    go_enter Try.func75, Try.ntmps75
    go_wp2_with (go_at_call 21; refine cO.mono ?_; rintro e w' ⟨rfl, hb⟩)
    go_ret
    exact ⟨rfl, hb⟩
theorem build_cam (x y : Int) (w : World) : (Instr.build 108 #[(0, .int .i64 x), (1, .int .i64 y)]).run Try.prog w = .ok (.agg (CM x y)) w := by kernel_rfl
set_option maxHeartbeats 1000000 in
theorem implOffsetAt_any (v : Value) (L : List Ly) (q x y : Int) (w : World) (hL : ltLy L) (hq : (Lit.int .i64 q).wf = true) (h : SlAt eLy w w.heap.size v L) :
    Calls Try.prog 37 #[v, .int .i64 q, .int .i64 x, .int .i64 y] w fun e w' => e = .returned (.tuple #[.int .i64 (ofE L q x y), .int .i64 (ofS L q x y), .int .i64 (ofC L q x y)]) ∧ Below w.heap.size w w' := by
  have r2 := Row.new w 108 (CM x y)
  have h0 := (Below.refl w.heap.size w).alloc (Nat.le_refl _) (.cells (CM x y) 108)
  have cC := fun b w' (hb : Below w.heap.size w w') => checkScene_any v L b w' hL (h.later hb)
  obtain ⟨A, c, rfl, h1, h2, hA⟩ := h
  have cH := fun w' => hasLayer_any A L.length c q w' (by omega)
  have cR := fun w' => inRange_any x y w'
  unfold maxLen at h2
  have c4 : _ = some (Value.int .i64 x) := r2.cell 0
  have c5 : _ = some (Value.int .i64 y) := r2.cell 1
  unfold ofE ofS
  rcases ofC_cases L q x y with ⟨q1, q2, qa⟩ | ⟨q1, q2, q3, qa⟩ | ⟨q1, q2, q3, q4, qa⟩ | ⟨q1, q2, q3, q4, qa⟩
  case inr.inr.inr =>
    rw [q4] at cH
    rw [q3] at cR
    have e0 : chC L true = 0 := by unfold chC; rw [q2]; rfl
    rw [qa, if_pos rfl, if_pos rfl]
    have iq := inB_iff.1 q4
    obtain ⟨n, rfl⟩ : ∃ n : Nat, q = (n : Int) := ⟨q.toNat, by omega⟩
    rw [Int.toNat_natCast]
    have hn : n < L.length := by omega
    obtain ⟨b1, o1, rfl, hb1, r1⟩ := hA (by omega)
    have g1 := range_part r1 (lAt_get hn)
    rw [eLy_n] at g1
    obtain ⟨cx, cy⟩ := camB_iff q3
    have ol := (okS_iff.1 q2).2 n hn
    have cO := fun w' => implOffset_any (lAt L n) x y (lAt_lt hL n) ol cx cy w'
    have hw2 : ∀ w', Below w.heap.size w w' → w'.rangeAt b1 (o1 + n * 27) (eLy.c (lAt L n)) := fun w' hb => range_below g1 hb hb1
    clear q1 q2 q3 q4 qa hA r1 g1 cx cy ol hq
    unfold CM at c4 c5 h0 r2 cR cO
    go_enter Try.func37, Try.ntmps37
    go_wp2_with (first
      | (go_at_call 76; refine (cR _).mono ?_; rintro e w1 ⟨rfl, hb⟩; replace r2 := r2.below hb r2.lt; replace h0 := grown_below h0 hb h0.size; clear hb c4 c5)
      | (go_at_call 77; refine (cH _).mono ?_; rintro e' w' ⟨rfl, rfl⟩)
      | (go_at_call 75; refine (cC _ _ h0).mono ?_; rintro e w2 ⟨rfl, hb⟩; rw [e0]; replace r2 := r2.below hb r2.lt; replace h0 := grown_below h0 hb h0.size; clear hb))
    have g2 := hw2 _ h0
    have l2 := Nat.lt_of_lt_of_le hb1 h0.size
    have c4 : _ = some (Value.int .i64 x) := r2.cell 0
    have c5 : _ = some (Value.int .i64 y) := r2.cell 1
    have d4 := fun dd os => cell_regrown c4 dd os
    have d5 := fun dd os => cell_regrown c5 dd os
    refine wp_region_calm (by kernel_rfl) (by kernel_rfl) ?_
    repeat (first | (refine wpQuiet_load_el (E := eLy) rfl 86 _ rfl _ _ rfl (lAt L n) (LC (lAt L n)) rfl (by with_reducible exact g2) l2 Try.underlying86 rfl (by kernel_rfl) ?_) | quiet_step (exact Calls.regrown_of (cO _)))
    refine wpQuiet_nil ?_
    intro w3 hb3
    go_wp2
    go_ret3
    exact ⟨rfl, grown_below h0 hb3 h0.size⟩
  all_goals
    rw [qa, if_neg (by decide), if_neg (by decide)]
    clear hA hq
    unfold CM at c4 c5 h0 r2 cR
    first
      | (rw [q4] at cH; rw [q3] at cR; have e0 : chC L false = 2 := (by unfold chC; rw [q2]; rfl); have e1 : chC L true = 0 := (by unfold chC; rw [q2]; rfl); clear q1 q2 q3 q4 qa)
      | (rw [q3] at cR; have e0 : chC L false = 2 := (by unfold chC; rw [q2]; rfl); have e1 : chC L true = 0 := (by unfold chC; rw [q2]; rfl); clear q1 q2 q3 qa)
      | (have e0 : ∀ b, chC L b = 1 := (by intro b; unfold chC; rw [q2]; rfl); clear q1 q2 qa; generalize camB x y = bb at cR)
    try (cases bb <;> skip)
    all_goals
      go_enter Try.func37, Try.ntmps37
      go_wp2_with (first
        | (go_at_call 76; refine (cR _).mono ?_; rintro e w1 ⟨rfl, hb⟩; replace h0 := grown_below h0 hb h0.size; clear hb c4 c5 r2)
        | (go_at_call 77; refine (cH _).mono ?_; rintro e' w' ⟨rfl, rfl⟩)
        | (go_at_call 75; refine (cC _ _ h0).mono ?_; rintro e w2 ⟨rfl, hb⟩; rw [e0]; replace h0 := grown_below h0 hb h0.size; clear hb))
      go_ret3
      exact ⟨rfl, h0⟩
end Go.Proofs.Ytpmlepgnokbpaaa

/- A region that draws its order and in which a block is laid beside calls: walked with S := 'nothing that was there has turned' (the library's wpAnyH), the loads of whole frames first. And a cut behind a region whose ways end alike but for the number of a block. No function of the program is named. -/
namespace Go.Proofs.Ytpmlepgnokbpaaa
open Go.RowKit
section
variable {P : Program} {ops : Array Oper} {Q : Exit → Act → World → Prop} {md : Region.Mode} {S : World → Prop}
theorem yieldsIf_load_fr {o : Oper} {a : Act} (hgd : o.guard = none) (ty e : TypeId) (x : Operand) (ho : o.op = .load ty x) (g : Nat) (hx : a.eval x = .pointer (some ⟨g, 0, none⟩)) {t : TypeId} {f : Nat → Nat} (hb : ∀ w, S w → Blk w g t f)
    (hu : P.underlying ty = some (.array 12 e)) (hi : (P.info? ty).map (·.size) = some 12) : YieldsIf P ops S o (.agg (FC f)) a := by
  refine .inl ⟨by simp [Region.wanted, hgd], fun w hS => ?_⟩
  unfold execOp
  simp only [ho, hx, Instr.loadAt, Instr.sureAddr, Sem.run_bind, Sem.run_pure, Result.andThen_ok, run_loadVar_row _ g t ty (FC f) (0, 0) _ (hb w hS) hu rfl hi]
theorem yieldsIf_load_row {o : Oper} {a : Act} (hgd : o.guard = none) (ty : TypeId) (x : Operand) (ho : o.op = .load ty x) (g : Nat) (hx : a.eval x = .pointer (some ⟨g, 0, none⟩)) {t : TypeId} {cs : Array Value} {d : TypeDesc} (hb : ∀ w, S w → Row w g t cs)
    (hu : P.underlying ty = some d) (hd : (match d with | .struct _ | .array _ _ => true | _ => false) = true) (hi : (P.info? ty).map (·.size) = some cs.size) : YieldsIf P ops S o (.agg cs) a := by
  refine .inl ⟨by simp [Region.wanted, hgd], fun w hS => ?_⟩
  unfold execOp
  simp only [ho, hx, Instr.loadAt, Instr.sureAddr, Sem.run_bind, Sem.run_pure, Result.andThen_ok, run_loadVar_row _ g t ty cs (0, 0) d (hb w hS) hu hd hi]
/-- A region whose ways all end normally, in one state but for the number g of a block, at worlds of which R is known. -/
theorem wp_cut_blk {c : Code} {a : Act} {w : World} (F : Nat → Act) (R : Nat → World → Prop) (h : c.wp P (fun e a' w' => e = .normal ∧ ∃ g, a' = F g ∧ R g w') a w) (k : ∀ g w', R g w' → Q .normal (F g) w') : c.wp P Q a w :=
  Code.wp_mono (fun e a' w' ⟨he, g, ha, hR⟩ => by subst he; subst ha; exact k g w' hR) h
/-- The same for a value that a call hands back. -/
theorem wp_cut_val {c : Code} {a : Act} {w : World} (F : Value → Act) (R : Value → World → Prop) (h : c.wp P (fun e a' w' => e = .normal ∧ ∃ v, a' = F v ∧ R v w') a w) (k : ∀ v w', R v w' → Q .normal (F v) w') : c.wp P Q a w :=
  Code.wp_mono (fun e a' w' ⟨he, g, ha, hR⟩ => by subst he; subst ha; exact k g w' hR) h
theorem wp_store_fr {o : Oper} {a : Act} {w : World} {K : Act → World → Prop} (ty : TypeId) (x y : Operand) (ho : o.op = .store ty x y) (g : Nat) (hx : a.eval x = .pointer (some ⟨g, 0, none⟩)) {t : TypeId} {f0 f : Nat → Nat} (hb : Blk w g t f0)
    (hy : a.eval y = .agg (FC f)) (hi : (P.info? ty).map (·.size) = some 12) (h : K (a.put o.dst undef) (w.setRow g (FC f))) : o.wp P a w K Q := by
  unfold Oper.wp execOp
  simp only [ho, hx, hy, Instr.storeAt, Instr.sureAddr, Sem.run_bind, Sem.run_pure, Result.andThen_ok, run_storeVar_fr w g t ty f0 f hb hi]
  exact h
/-- The library's moves with the operation read off the written list, so that it stands written out. -/
theorem get_of_drop {l : List Oper} {i : Nat} {o : Oper} {rest : List Oper} (h : l.drop i = o :: rest) : l.toArray[i]? = some o := by
  have : (l.drop i)[0]? = some o := by rw [h]; rfl
  simpa [List.getElem?_drop] using this
theorem held_take {l : List Oper} {i : Nat} {o : Oper} {rest : List Oper} {v : Value} {fuel : Nat} {listed : Array Bool} {a : Act} {w : World} (hi : l.drop i = o :: rest)
    (hs : Region.noSelect l.toArray = true) (hf : Region.free md l.toArray listed i = true) (hr : (Region.ready md l.toArray listed).contains i = true)
    (hQ : ∀ c a w, Q (.panic c) (a.put o.dst v) w → Q (.panic c) a w) (hy : YieldsIf P l.toArray S o v a) (hS : S w)
    (h : wpAnyH P md l.toArray Q S fuel (listed.setIfInBounds i true) (a.put o.dst v) w) : wpAnyH P md l.toArray Q S (fuel + 1) listed a w :=
  wpAnyH_take (get_of_drop hi) hs hf hr hQ hy hS h
theorem held_cons {l : List Oper} {fuel : Nat} {listed : Array Bool} {a : Act} {w : World} {i : Nat} {o : Oper} {rest : List Oper} {rs : List Nat} (hi : l.drop i = o :: rest)
    (h : ∀ K' : Act → World → Prop, Shut (∀ a w, S w → (S w → wpAnyH P md l.toArray Q S fuel (listed.setIfInBounds i true) a w) → K' a w) → if Region.wanted o (yielded l.toArray a.tmps) = true then Oper.wp P o a w K' Q else K' (a.put o.dst undef) w)
    (hs : AllReadyH P md l.toArray Q S fuel listed a w rs) : AllReadyH P md l.toArray Q S fuel listed a w (i :: rs) :=
  AllReadyH.cons (get_of_drop hi) h hs
end
theorem below_drew_refl (w : World) : Below w.heap.size w w.drew := ⟨rfl, rfl, rfl, Nat.le_refl _, fun _ _ => rfl⟩
end Go.Proofs.Ytpmlepgnokbpaaa
