/- OffsetAt: spec and impl; Scene.hasLayer, checkScene. -/
import Derived.Test.YtpmlepgnokbpaaaSLay
import Derived.Test.YtpmlepgnokbpaaaILay
namespace Go.Proofs.Ytpmlepgnokbpaaa
set_option maxRecDepth 100000
open Go.RowKit
set_option linter.unusedVariables false
set_option linter.unusedSimpArgs false
def ofC (L : List Ly) (q x y : Int) : Int := if okS L then (if camB x y && inB q 0 ((L.length : Int) - 1) then 0 else 2) else 1
def ofE (L : List Ly) (q x y : Int) : Int := if ofC L q x y = 0 then offE (lAt L q.toNat) x else 0
def ofS (L : List Ly) (q x y : Int) : Int := if ofC L q x y = 0 then offS (lAt L q.toNat) y else 0
theorem ofC_cases (L : List Ly) (q x y : Int) : (camC L x y = 1 ∧ okS L = false ∧ ofC L q x y = 1) ∨ (camC L x y = 2 ∧ okS L = true ∧ camB x y = false ∧ ofC L q x y = 2) ∨ (camC L x y = 0 ∧ okS L = true ∧ camB x y = true ∧ inB q 0 ((L.length : Int) - 1) = false ∧ ofC L q x y = 2) ∨ (camC L x y = 0 ∧ okS L = true ∧ camB x y = true ∧ inB q 0 ((L.length : Int) - 1) = true ∧ ofC L q x y = 0) := by
  unfold ofC camC; cases okS L <;> cases camB x y <;> cases inB q 0 ((L.length : Int) - 1) <;> simp
theorem camB_iff {x y : Int} (h : camB x y = true) : (-100 ≤ x ∧ x ≤ 100) ∧ -100 ≤ y ∧ y ≤ 100 := by
  unfold camB at h
  simp only [Bool.and_eq_true, inB_iff] at h
  exact h
set_option maxHeartbeats 1000000 in
theorem specOffsetAt_any (v : Value) (L : List Ly) (q x y : Int) (w : World) (hL : ltLy L) (hq : (Lit.int .i64 q).wf = true) (h : SlAt eLy w w.heap.size v L) :
    Calls Try.prog 36 #[v, .int .i64 q, .int .i64 x, .int .i64 y] w fun e w' => e = .returned (.tuple #[.int .i64 (ofE L q x y), .int .i64 (ofS L q x y), .int .i64 (ofC L q x y)]) ∧ Below w.heap.size w w' := by
  have cC := specCamera_any v L x y w hL h
  obtain ⟨A, c, rfl, h1, h2, hA⟩ := h
  unfold maxLen at h2
  have cN := fun n a b w => in_any n a b w
  have k1 : IntKind.i64.wrap ((L.length : Int) - 1) = (L.length : Int) - 1 := IntWalk.i64_in _ (by omega)
  unfold ofE ofS
  rcases ofC_cases L q x y with ⟨q1, q2, qa⟩ | ⟨q1, q2, q3, qa⟩ | ⟨q1, q2, q3, q4, qa⟩ | ⟨q1, q2, q3, q4, qa⟩
  case inr.inr.inr =>
    rw [q1] at cC
    rw [qa, if_pos rfl, if_pos rfl]
    have iq := inB_iff.1 q4
    obtain ⟨n, rfl⟩ : ∃ n : Nat, q = (n : Int) := ⟨q.toNat, by omega⟩
    rw [Int.toNat_natCast]
    have hn : n < L.length := by omega
    obtain ⟨b1, o1, rfl, hb1, r1⟩ := hA (by omega)
    have g1 := range_part r1 (lAt_get hn)
    rw [eLy_n] at g1
    obtain ⟨cx, cy⟩ := camB_iff q3
    have ol := (okS_iff.1 q2).2 n hn
    have cO := fun w' (h : LayIn w' b1 (o1 + n * 27) (lAt L n)) lb => specOffset_any b1 (o1 + n * 27) (lAt L n) x y (lAt_lt hL n) ol cx cy w' h lb
    have G1 := layIn g1
    clear q1 q2 q3 qa hA r1 g1 cx cy ol
    go_enter Try.func36, Try.ntmps36
    go_wp2_with (first
      | (go_at_call 72; refine cC.mono ?_; rintro e w1 ⟨rfl, hb⟩; have G2 := G1.below hb hb1; have l2 := Nat.lt_of_lt_of_le hb1 hb.size; clear cC G1)
      | (go_at_call 73; refine (cN _ _ _ _).mono ?_; rintro e' w' ⟨rfl, rfl⟩)
      | (go_at_call 74; refine (cO _ G2 l2).mono ?_; rintro e w2 ⟨rfl, hb2⟩; replace hb := grown_below hb hb2 hb.size; clear hb2))
    go_ret3
    exact ⟨rfl, hb⟩
  all_goals
    rw [q1] at cC
    rw [qa, if_neg (by decide), if_neg (by decide)]
    clear q1 qa hA
    go_enter Try.func36, Try.ntmps36
    go_wp2_with (first
      | (go_at_call 72; refine cC.mono ?_; rintro e w1 ⟨rfl, hb⟩; clear cC)
      | (go_at_call 73; refine (cN _ _ _ _).mono ?_; rintro e' w' ⟨rfl, rfl⟩))
    go_ret3
    exact ⟨rfl, hb⟩
set_option maxHeartbeats 400000 in
theorem hasLayer_any (A : Option Addr) (n c : Nat) (q : Int) (w : World) (hn : n ≤ maxLen) :
    Calls Try.prog 77 #[.slice A n c, .int .i64 q] w fun e w' => e = .returned (.bool (inB q 0 ((n : Int) - 1))) ∧ w = w' := by
  unfold maxLen at hn
  have e : inB q 0 ((n : Int) - 1) = (decide (0 ≤ q) && decide (q < (n : Int))) := by
    unfold inB
    rw [← Bool.decide_and]
    congr 1
    apply propext
    omega
  rw [e]
  clear e
  by_cases h0 : 0 ≤ q
  · have d0 : decide (0 ≤ q) = true := decide_eq_true h0
    rw [d0]
    go_enter Try.func77, Try.ntmps77
    go_wp2
    go_ret
    exact ⟨ret_bool (by simp), rfl⟩
  · have d0 : decide (0 ≤ q) = false := decide_eq_false h0
    rw [d0]
    go_enter Try.func77, Try.ntmps77
    go_wp2
    go_ret
    exact ⟨ret_bool (by simp), rfl⟩
def chC (L : List Ly) (b : Bool) : Int := if okS L then (if b then 0 else 2) else 1
theorem checkScene_any (v : Value) (L : List Ly) (b : Bool) (w : World) (hL : ltLy L) (h : SlAt eLy w w.heap.size v L) :
    Calls Try.prog 75 #[v, .bool b] w fun e w' => e = .returned (.int .i64 (chC L b)) ∧ Below w.heap.size w w' := by
  have cO := implValidScene_any v L w hL h
  obtain ⟨A, c, rfl, h1, h2, hA⟩ := h
  clear hA
  unfold chC
  cases hS : okS L <;> rw [hS] at cO <;> clear hS <;> cases b
  all_goals
    go_enter Try.func75, Try.ntmps75
    go_wp2_with (go_at_call 21; refine cO.mono ?_; rintro e w' ⟨rfl, hb⟩)
    go_ret
    exact ⟨rfl, hb⟩
theorem build_cam (x y : Int) (w : World) : (Instr.build 108 #[(0, .int .i64 x), (1, .int .i64 y)]).run Try.prog w = .ok (.agg (CM x y)) w := by kernel_rfl
set_option maxHeartbeats 1000000 in
theorem implOffsetAt_any (v : Value) (L : List Ly) (q x y : Int) (w : World) (hL : ltLy L) (hq : (Lit.int .i64 q).wf = true) (h : SlAt eLy w w.heap.size v L) :
    Calls Try.prog 37 #[v, .int .i64 q, .int .i64 x, .int .i64 y] w fun e w' => e = .returned (.tuple #[.int .i64 (ofE L q x y), .int .i64 (ofS L q x y), .int .i64 (ofC L q x y)]) ∧ Below w.heap.size w w' := by
  have r2 := Row.new w 108 (CM x y)
  have h0 := (Below.refl w.heap.size w).alloc (Nat.le_refl _) (.cells (CM x y) 108)
  have cC := fun b w' (hb : Below w.heap.size w w') => checkScene_any v L b w' hL (h.later hb)
  obtain ⟨A, c, rfl, h1, h2, hA⟩ := h
  have cH := fun w' => hasLayer_any A L.length c q w' (by omega)
  have cR := fun w' => inRange_any x y w'
  unfold maxLen at h2
  have c4 : _ = some (Value.int .i64 x) := r2.cell 0
  have c5 : _ = some (Value.int .i64 y) := r2.cell 1
  unfold ofE ofS
  rcases ofC_cases L q x y with ⟨q1, q2, qa⟩ | ⟨q1, q2, q3, qa⟩ | ⟨q1, q2, q3, q4, qa⟩ | ⟨q1, q2, q3, q4, qa⟩
  case inr.inr.inr =>
    rw [q4] at cH
    rw [q3] at cR
    have e0 : chC L true = 0 := by unfold chC; rw [q2]; rfl
    rw [qa, if_pos rfl, if_pos rfl]
    have iq := inB_iff.1 q4
    obtain ⟨n, rfl⟩ : ∃ n : Nat, q = (n : Int) := ⟨q.toNat, by omega⟩
    rw [Int.toNat_natCast]
    have hn : n < L.length := by omega
    obtain ⟨b1, o1, rfl, hb1, r1⟩ := hA (by omega)
    have g1 := range_part r1 (lAt_get hn)
    rw [eLy_n] at g1
    obtain ⟨cx, cy⟩ := camB_iff q3
    have ol := (okS_iff.1 q2).2 n hn
    have cO := fun w' => implOffset_any (lAt L n) x y (lAt_lt hL n) ol cx cy w'
    have hw2 : ∀ w', Below w.heap.size w w' → w'.rangeAt b1 (o1 + n * 27) (eLy.c (lAt L n)) := fun w' hb => range_below g1 hb hb1
    clear q1 q2 q3 q4 qa hA r1 g1 cx cy ol hq
    unfold CM at c4 c5 h0 r2 cR cO
    go_enter Try.func37, Try.ntmps37
    go_wp2_with (first
      | (go_at_call 76; refine (cR _).mono ?_; rintro e w1 ⟨rfl, hb⟩; replace r2 := r2.below hb r2.lt; replace h0 := grown_below h0 hb h0.size; clear hb c4 c5)
      | (go_at_call 77; refine (cH _).mono ?_; rintro e' w' ⟨rfl, rfl⟩)
      | (go_at_call 75; refine (cC _ _ h0).mono ?_; rintro e w2 ⟨rfl, hb⟩; rw [e0]; replace r2 := r2.below hb r2.lt; replace h0 := grown_below h0 hb h0.size; clear hb))
    have g2 := hw2 _ h0
    have l2 := Nat.lt_of_lt_of_le hb1 h0.size
    have c4 : _ = some (Value.int .i64 x) := r2.cell 0
    have c5 : _ = some (Value.int .i64 y) := r2.cell 1
    have d4 := fun dd os => cell_regrown c4 dd os
    have d5 := fun dd os => cell_regrown c5 dd os
    refine wp_region_calm (by kernel_rfl) (by kernel_rfl) ?_
    repeat (first | (refine wpQuiet_load_el (E := eLy) rfl 86 _ rfl _ _ rfl (lAt L n) (LC (lAt L n)) rfl (by with_reducible exact g2) l2 Try.underlying86 rfl (by kernel_rfl) ?_) | quiet_step (exact Calls.regrown_of (cO _)))
    refine wpQuiet_nil ?_
    intro w3 hb3
    go_wp2
    go_ret3
    exact ⟨rfl, grown_below h0 hb3 h0.size⟩
  all_goals
    rw [qa, if_neg (by decide), if_neg (by decide)]
    clear hA hq
    unfold CM at c4 c5 h0 r2 cR
    first
      | (rw [q4] at cH; rw [q3] at cR; have e0 : chC L false = 2 := (by unfold chC; rw [q2]; rfl); have e1 : chC L true = 0 := (by unfold chC; rw [q2]; rfl); clear q1 q2 q3 q4 qa)
      | (rw [q3] at cR; have e0 : chC L false = 2 := (by unfold chC; rw [q2]; rfl); have e1 : chC L true = 0 := (by unfold chC; rw [q2]; rfl); clear q1 q2 q3 qa)
      | (have e0 : ∀ b, chC L b = 1 := (by intro b; unfold chC; rw [q2]; rfl); clear q1 q2 qa; generalize camB x y = bb at cR)
    try (cases bb <;> skip)
    all_goals
      go_enter Try.func37, Try.ntmps37
      go_wp2_with (first
        | (go_at_call 76; refine (cR _).mono ?_; rintro e w1 ⟨rfl, hb⟩; replace h0 := grown_below h0 hb h0.size; clear hb c4 c5 r2)
        | (go_at_call 77; refine (cH _).mono ?_; rintro e' w' ⟨rfl, rfl⟩)
        | (go_at_call 75; refine (cC _ _ h0).mono ?_; rintro e w2 ⟨rfl, hb⟩; rw [e0]; replace h0 := grown_below h0 hb h0.size; clear hb))
      go_ret3
      exact ⟨rfl, h0⟩
end Go.Proofs.Ytpmlepgnokbpaaa
