import Derived.Test.YtpmlepgnokbpaaaM13
import Derived.Test.YtpmlepgnokbpaaaM18
import Derived.Test.YtpmlepgnokbpaaaM15
import Derived.Test.YtpmlepgnokbpaaaM3
import Derived.Test.YtpmlepgnokbpaaaM8
/- OffsetAt: spec and impl; Scene.hasLayer, checkScene. -/
namespace Go.Proofs.Ytpmlepgnokbpaaa
set_option maxRecDepth 100000
open Go.RowKit
set_option linter.unusedVariables false
set_option linter.unusedSimpArgs false
def ofC (L : List Ly) (q x y : Int) : Int := if okS L then (if camB x y && inB q 0 ((L.length : Int) - 1) then 0 else 2) else 1
def ofE (L : List Ly) (q x y : Int) : Int := if ofC L q x y = 0 then offE (lAt L q.toNat) x else 0
def ofS (L : List Ly) (q x y : Int) : Int := if ofC L q x y = 0 then offS (lAt L q.toNat) y else 0
theorem ofC_cases (L : List Ly) (q x y : Int) : (camC L x y = 1 ∧ okS L = false ∧ ofC L q x y = 1) ∨ (camC L x y = 2 ∧ okS L = true ∧ camB x y = false ∧ ofC L q x y = 2) ∨ (camC L x y = 0 ∧ okS L = true ∧ camB x y = true ∧ inB q 0 ((L.length : Int) - 1) = false ∧ ofC L q x y = 2) ∨ (camC L x y = 0 ∧ okS L = true ∧ camB x y = true ∧ inB q 0 ((L.length : Int) - 1) = true ∧ ofC L q x y = 0) := by
  unfold ofC camC; cases okS L <;> cases camB x y <;> cases inB q 0 ((L.length : Int) - 1) <;> simp
theorem camB_iff {x y : Int} (h : camB x y = true) : (-100 ≤ x ∧ x ≤ 100) ∧ -100 ≤ y ∧ y ≤ 100 := by
  unfold camB at h
  simp only [Bool.and_eq_true, inB_iff] at h
  exact h
set_option maxHeartbeats 1000000 in
theorem specOffsetAt_any (v : Value) (L : List Ly) (q x y : Int) (w : World) (hL : ltLy L) (hq : (Lit.int .i64 q).wf = true) (h : SlAt eLy w w.heap.size v L) :
    Calls Try.prog 36 #[v, .int .i64 q, .int .i64 x, .int .i64 y] w fun e w' => e = .returned (.tuple #[.int .i64 (ofE L q x y), .int .i64 (ofS L q x y), .int .i64 (ofC L q x y)]) ∧ Below w.heap.size w w' := by
  have cC := specCamera_any v L x y w hL h
  obtain ⟨A, c, rfl, h1, h2, hA⟩ := h
  unfold maxLen at h2
  have cN := fun n a b w => in_any n a b w
  have k1 : IntKind.i64.wrap ((L.length : Int) - 1) = (L.length : Int) - 1 := IntWalk.i64_in _ (by omega)
  unfold ofE ofS
  rcases ofC_cases L q x y with ⟨q1, q2, qa⟩ | ⟨q1, q2, q3, qa⟩ | ⟨q1, q2, q3, q4, qa⟩ | ⟨q1, q2, q3, q4, qa⟩
  case inr.inr.inr =>
    rw [q1] at cC
    rw [qa, if_pos rfl, if_pos rfl]
    have iq := inB_iff.1 q4
    obtain ⟨n, rfl⟩ : ∃ n : Nat, q = (n : Int) := ⟨q.toNat, by omega⟩
    rw [Int.toNat_natCast]
    have hn : n < L.length := by omega
    obtain ⟨b1, o1, rfl, hb1, r1⟩ := hA (by omega)
    have g1 := range_part r1 (lAt_get hn)
    rw [eLy_n] at g1
    obtain ⟨cx, cy⟩ := camB_iff q3
    have ol := (okS_iff.1 q2).2 n hn
    have cO := fun w' (h : LayIn w' b1 (o1 + n * 27) (lAt L n)) lb => specOffset_any b1 (o1 + n * 27) (lAt L n) x y (lAt_lt hL n) ol cx cy w' h lb
    have G1 := layIn g1
    clear q1 q2 q3 qa hA r1 g1 cx cy ol
    go_enter Try.func36, Try.ntmps36
    go_wp2_with (first
      | (go_at_call 72; refine cC.mono ?_; rintro e w1 ⟨rfl, hb⟩; have G2 := G1.below hb hb1; have l2 := Nat.lt_of_lt_of_le hb1 hb.size; clear cC G1)
      | (go_at_call 73; refine (cN _ _ _ _).mono ?_; rintro e' w' ⟨rfl, rfl⟩)
      | (go_at_call 74; refine (cO _ G2 l2).mono ?_; rintro e w2 ⟨rfl, hb2⟩; replace hb := grown_below hb hb2 hb.size; clear hb2))
    go_ret3
    exact ⟨rfl, hb⟩
  all_goals
    rw [q1] at cC
    rw [qa, if_neg (by decide), if_neg (by decide)]
    clear q1 qa hA
    go_enter Try.func36, Try.ntmps36
    go_wp2_with (first
      | (go_at_call 72; refine cC.mono ?_; rintro e w1 ⟨rfl, hb⟩; clear cC)
      | (go_at_call 73; refine (cN _ _ _ _).mono ?_; rintro e' w' ⟨rfl, rfl⟩))
    go_ret3
    exact ⟨rfl, hb⟩
set_option maxHeartbeats 400000 in
theorem hasLayer_any (A : Option Addr) (n c : Nat) (q : Int) (w : World) (hn : n ≤ maxLen) :
    Calls Try.prog 77 #[.slice A n c, .int .i64 q] w fun e w' => e = .returned (.bool (inB q 0 ((n : Int) - 1))) ∧ w = w' := by
  unfold maxLen at hn
  have e : inB q 0 ((n : Int) - 1) = (decide (0 ≤ q) && decide (q < (n : Int))) := by
    unfold inB
    rw [← Bool.decide_and]
    congr 1
    apply propext
    omega
  rw [e]
  clear e
  by_cases h0 : 0 ≤ q
  · have d0 : decide (0 ≤ q) = true := decide_eq_true h0
    rw [d0]
    go_enter Try.func77, Try.ntmps77
    go_wp2
    go_ret
    exact ⟨ret_bool (by simp), rfl⟩
  · have d0 : decide (0 ≤ q) = false := decide_eq_false h0
    rw [d0]
    go_enter Try.func77, Try.ntmps77
    go_wp2
    go_ret
    exact ⟨ret_bool (by simp), rfl⟩
def chC (L : List Ly) (b : Bool) : Int := if okS L then (if b then 0 else 2) else 1
theorem checkScene_any (v : Value) (L : List Ly) (b : Bool) (w : World) (hL : ltLy L) (h : SlAt eLy w w.heap.size v L) :
    Calls Try.prog 75 #[v, .bool b] w fun e w' => e = .returned (.int .i64 (chC L b)) ∧ Below w.heap.size w w' := by
  have cO := implValidScene_any v L w hL h
  obtain ⟨A, c, rfl, h1, h2, hA⟩ := h
  clear hA
  unfold chC
  cases hS : okS L <;> rw [hS] at cO <;> clear hS <;> cases b
  all_goals
    go_enter Try.func75, Try.ntmps75
    go_wp2_with (go_at_call 21; refine cO.mono ?_; rintro e w' ⟨rfl, hb⟩)
    go_ret
    exact ⟨rfl, hb⟩
theorem build_cam (x y : Int) (w : World) : (Instr.build 108 #[(0, .int .i64 x), (1, .int .i64 y)]).run Try.prog w = .ok (.agg (CM x y)) w := by kernel_rfl
set_option maxHeartbeats 1000000 in
theorem implOffsetAt_any (v : Value) (L : List Ly) (q x y : Int) (w : World) (hL : ltLy L) (hq : (Lit.int .i64 q).wf = true) (h : SlAt eLy w w.heap.size v L) :
    Calls Try.prog 37 #[v, .int .i64 q, .int .i64 x, .int .i64 y] w fun e w' => e = .returned (.tuple #[.int .i64 (ofE L q x y), .int .i64 (ofS L q x y), .int .i64 (ofC L q x y)]) ∧ Below w.heap.size w w' := by
  have r2 := Row.new w 108 (CM x y)
  have h0 := (Below.refl w.heap.size w).alloc (Nat.le_refl _) (.cells (CM x y) 108)
  have cC := fun b w' (hb : Below w.heap.size w w') => checkScene_any v L b w' hL (h.later hb)
  obtain ⟨A, c, rfl, h1, h2, hA⟩ := h
  have cH := fun w' => hasLayer_any A L.length c q w' (by omega)
  have cR := fun w' => inRange_any x y w'
  unfold maxLen at h2
  have c4 : _ = some (Value.int .i64 x) := r2.cell 0
  have c5 : _ = some (Value.int .i64 y) := r2.cell 1
  unfold ofE ofS
  rcases ofC_cases L q x y with ⟨q1, q2, qa⟩ | ⟨q1, q2, q3, qa⟩ | ⟨q1, q2, q3, q4, qa⟩ | ⟨q1, q2, q3, q4, qa⟩
  case inr.inr.inr =>
    rw [q4] at cH
    rw [q3] at cR
    have e0 : chC L true = 0 := by unfold chC; rw [q2]; rfl
    rw [qa, if_pos rfl, if_pos rfl]
    have iq := inB_iff.1 q4
    obtain ⟨n, rfl⟩ : ∃ n : Nat, q = (n : Int) := ⟨q.toNat, by omega⟩
    rw [Int.toNat_natCast]
    have hn : n < L.length := by omega
    obtain ⟨b1, o1, rfl, hb1, r1⟩ := hA (by omega)
    have g1 := range_part r1 (lAt_get hn)
    rw [eLy_n] at g1
    obtain ⟨cx, cy⟩ := camB_iff q3
    have ol := (okS_iff.1 q2).2 n hn
    have cO := fun w' => implOffset_any (lAt L n) x y (lAt_lt hL n) ol cx cy w'
    have hw2 : ∀ w', Below w.heap.size w w' → w'.rangeAt b1 (o1 + n * 27) (eLy.c (lAt L n)) := fun w' hb => range_below g1 hb hb1
    clear q1 q2 q3 q4 qa hA r1 g1 cx cy ol hq
    unfold CM at c4 c5 h0 r2 cR cO
    go_enter Try.func37, Try.ntmps37
    go_wp2_with (first
      | (go_at_call 76; refine (cR _).mono ?_; rintro e w1 ⟨rfl, hb⟩; replace r2 := r2.below hb r2.lt; replace h0 := grown_below h0 hb h0.size; clear hb c4 c5)
      | (go_at_call 77; refine (cH _).mono ?_; rintro e' w' ⟨rfl, rfl⟩)
      | (go_at_call 75; refine (cC _ _ h0).mono ?_; rintro e w2 ⟨rfl, hb⟩; rw [e0]; replace r2 := r2.below hb r2.lt; replace h0 := grown_below h0 hb h0.size; clear hb))
    have g2 := hw2 _ h0
    have l2 := Nat.lt_of_lt_of_le hb1 h0.size
    have c4 : _ = some (Value.int .i64 x) := r2.cell 0
    have c5 : _ = some (Value.int .i64 y) := r2.cell 1
    have d4 := fun dd os => cell_regrown c4 dd os
    have d5 := fun dd os => cell_regrown c5 dd os
    refine wp_region_calm (by kernel_rfl) (by kernel_rfl) ?_
    repeat (first | (refine wpQuiet_load_el (E := eLy) rfl 86 _ rfl _ _ rfl (lAt L n) (LC (lAt L n)) rfl (by with_reducible exact g2) l2 Try.underlying86 rfl (by kernel_rfl) ?_) | quiet_step (exact Calls.regrown_of (cO _)))
    refine wpQuiet_nil ?_
    intro w3 hb3
    go_wp2
    go_ret3
    exact ⟨rfl, grown_below h0 hb3 h0.size⟩
  all_goals
    rw [qa, if_neg (by decide), if_neg (by decide)]
    clear hA hq
    unfold CM at c4 c5 h0 r2 cR
    first
      | (rw [q4] at cH; rw [q3] at cR; have e0 : chC L false = 2 := (by unfold chC; rw [q2]; rfl); have e1 : chC L true = 0 := (by unfold chC; rw [q2]; rfl); clear q1 q2 q3 q4 qa)
      | (rw [q3] at cR; have e0 : chC L false = 2 := (by unfold chC; rw [q2]; rfl); have e1 : chC L true = 0 := (by unfold chC; rw [q2]; rfl); clear q1 q2 q3 qa)
      | (have e0 : ∀ b, chC L b = 1 := (by intro b; unfold chC; rw [q2]; rfl); clear q1 q2 qa; generalize camB x y = bb at cR)
    try (cases bb <;> skip)
    all_goals
      go_enter Try.func37, Try.ntmps37
      go_wp2_with (first
        | (go_at_call 76; refine (cR _).mono ?_; rintro e w1 ⟨rfl, hb⟩; replace h0 := grown_below h0 hb h0.size; clear hb c4 c5 r2)
        | (go_at_call 77; refine (cH _).mono ?_; rintro e' w' ⟨rfl, rfl⟩)
        | (go_at_call 75; refine (cC _ _ h0).mono ?_; rintro e w2 ⟨rfl, hb⟩; rw [e0]; replace h0 := grown_below h0 hb h0.size; clear hb))
      go_ret3
      exact ⟨rfl, h0⟩
end Go.Proofs.Ytpmlepgnokbpaaa

/- impl: Scene.laidBefore, Scene.flat, FlattenScene, ShowScene. -/
namespace Go.Proofs.Ytpmlepgnokbpaaa
set_option maxRecDepth 100000
open Go.RowKit
set_option linter.unusedVariables false
set_option linter.unusedSimpArgs false
structure Ld where
  i : Nat → Nat
  k : Nat → Nat
  n : Int
def zeroLd : Ld := ⟨zeroF, zeroF, 0⟩
instance : Inhabited Ld := ⟨zeroLd⟩
def DC (d : Ld) : Array Value := #[.int .u16 (d.i 0), .int .u16 (d.i 1), .int .u16 (d.i 2), .int .u16 (d.i 3), .int .u16 (d.i 4), .int .u16 (d.i 5), .int .u16 (d.i 6), .int .u16 (d.i 7), .int .u16 (d.i 8), .int .u16 (d.i 9), .int .u16 (d.i 10), .int .u16 (d.i 11), .int .u16 (d.k 0), .int .u16 (d.k 1), .int .u16 (d.k 2), .int .u16 (d.k 3), .int .u16 (d.k 4), .int .u16 (d.k 5), .int .u16 (d.k 6), .int .u16 (d.k 7), .int .u16 (d.k 8), .int .u16 (d.k 9), .int .u16 (d.k 10), .int .u16 (d.k 11), .int .i64 d.n]
theorem DC_list (d : Ld) : (DC d).toList = (CC d.i d.k).toList ++ [.int .i64 d.n] := rfl
theorem DC_one (d : Ld) : ∀ v ∈ (DC d).toList, v.oneCell' = true := by
  intro v hv
  rw [DC_list, List.mem_append] at hv
  rcases hv with h | h
  · exact CC_one _ _ v h
  · simp at h; subst h; rfl
def eLd : Enc Ld := ⟨fun d => (DC d).toList, 25, fun _ => rfl, fun d => DC_one d⟩
theorem eLd_n : eLd.n = 25 := rfl
theorem DC_zero : DC zeroLd = #[.int .u16 0, .int .u16 0, .int .u16 0, .int .u16 0, .int .u16 0, .int .u16 0, .int .u16 0, .int .u16 0, .int .u16 0, .int .u16 0, .int .u16 0, .int .u16 0, .int .u16 0, .int .u16 0, .int .u16 0, .int .u16 0, .int .u16 0, .int .u16 0, .int .u16 0, .int .u16 0, .int .u16 0, .int .u16 0, .int .u16 0, .int .u16 0, .int .i64 0] := rfl
theorem infoLd : (Try.prog.info? 138).map (fun i => (i.zero, i.size, i.bytes)) = some (some (.agg (DC zeroLd)), 25, 56) := by kernel_rfl
theorem build_ld (i k : Nat → Nat) (n : Int) (w : World) : (Instr.build 138 #[(0, .agg (CC i k)), (1, .int .i64 n)]).run Try.prog w = .ok (.agg (DC ⟨i, k, n⟩)) w := by kernel_rfl
theorem run_build_ld1 (d : Ld) (w : World) : (Instr.buildSlice 135 1 #[(0, .agg (DC d))]).run Try.prog w = .ok (.slice (some ⟨w.heap.size, 0, none⟩) 1 1) (w.alloc (.cells (DC d) 138)) := by kernel_rfl
theorem ld_cel {w : World} {b o : Nat} {d : Ld} (h : w.rangeAt b o (eLd.c d)) : CelIn w b o d.i d.k := celIn_range (fun j v hv => h j v (by
      show (DC d).toList[j]? = some v
      rw [DC_list, List.getElem?_append_left ((List.getElem?_eq_some_iff.1 hv).1)]; exact hv))
theorem wrote_setRow (w : World) (g : Nat) (cs : Array Value) : Wrote g w (w.setRow g cs) := ⟨rfl, rfl, rfl, by simp [World.setRow], fun k _ hn => setRow_other w g k cs hn⟩
set_option maxHeartbeats 1000000 in
theorem listByC_ld (n : Int) (fid : FuncId) (c1 c2 : Value) (F : Nat → Ld) (w : World) (hn1 : -1 ≤ n) (hn2 : n ≤ 1000000)
    (hcall : ∀ x w, (callFunc fid #[.int .i64 x, c1, c2]).run Try.prog w = .ok (.enter fid #[.int .i64 x, c1, c2]) w)
    (hbody : ∀ i : Nat, (i : Int) < n → ∀ w1, Below w.heap.size w w1 → Calls Try.prog fid #[.int .i64 i, c1, c2] w1 fun e w2 => e = .returned (.agg (DC (F i))) ∧ Below w1.heap.size w1 w2) :
    Calls Try.prog 116 #[.int .i64 n, .func (.func fid) #[] #[c1, c2]] w (GivesV eLd 138 (tab F n.toNat) w) := by
  have hown := OwnL.nil_ (E := eLd) w w.heap.size 138
  have HB := Lib.hid hbody
  clear hbody
  go_enter Try.func116, Try.ntmps116
  go_wp2
  go_loopw [5, 8] (fun u i wr => ∃ k : Nat, k ≤ n.toNat ∧ i = .int .i64 k ∧ OwnL eLd wr w.heap.size 138 u (tab F k) ∧ Below w.heap.size w wr) (fun _ i _ => n.toNat - (intOf i).toNat)
  case atStart => exact ⟨0, by omega, rfl, hown, Below.refl _ _⟩
  case round =>
    clear hown
    obtain ⟨k, hk, rfl, hown, hb⟩ := hrel
    by_cases hlt : (k : Int) < n
    · go_wp2_with fail
      refine (HB.out k hlt wr hb).mono ?_
      rintro e w3 ⟨rfl, hb3⟩
      replace hb := grown_below hb hb3 hb.size
      replace hown := hown.below hb3
      clear hb3
      go_wp2_with (first | (refine wpList_build1 (v := .agg (DC (F k))) (cs := DC (F k)) rfl 135 138 _ rfl rfl (fun w => run_build_ld1 (F k) w) ?_) | (at_builtin; refine wpList_append_one rfl _ _ 135 rfl w.heap.size 138 Try.underlying135 infoLd rfl (by decide) (by omega) (hown.alloc (.cells (DC (F k)) 138)) rfl (F k) rfl (range_new _ _ (DC (F k))) (by rw [tab_length]; omega) (by have := hb.size; simp; omega) ?_; intro v' w4 hown' hgrow))
      go_roundw
      case rel =>
        go_light
        refine ⟨k + 1, by omega, by go_num, ?_, (hown.alloc _).grown_below (hb.alloc hb.size _) hgrow (Nat.le_refl _) (by have := hb.size; simp; omega)⟩
        rw [tab_succ]; exact hown'
      case measure => simp [intOf]; omega
    · have hkn : k = n.toNat := by omega
      subst hkn
      go_wp2
      go_ret
      exact ⟨_, rfl, hown, hb⟩
/-- The layer at an index, as it lies before a camera. -/
def ldAt (L : List Ly) (x y : Int) (i : Nat) : Ld := ⟨movedI (lAt L i).i (offE (lAt L i) x) (offS (lAt L i) y) 12, movedI (lAt L i).k (offE (lAt L i) x) (offS (lAt L i) y) 12, (i : Int)⟩
set_option maxHeartbeats 1000000 in
theorem laidFn_any (L : List Ly) (x y : Int) (i : Nat) (hi : i < L.length) (gs gc b1 o1 c : Nat) (w : World) (hL : ltLy L) (ho : okS L = true) (cx : -100 ≤ x ∧ x ≤ 100) (cy : -100 ≤ y ∧ y ≤ 100) (hc : L.length ≤ c) (hm : c ≤ maxLen)
    (hs : w.cell? ⟨gs, 0, none⟩ = some (.slice (some ⟨b1, o1, none⟩) L.length c)) (hr : Row w gc 108 (CM x y)) (hA : w.rangeAt b1 o1 (eLy.cells L)) (lb : b1 < w.heap.size) :
    Calls Try.prog 117 #[.int .i64 i, .pointer (some ⟨gs, 0, none⟩), .pointer (some ⟨gc, 0, none⟩)] w fun e w' => e = .returned (.agg (DC (ldAt L x y i))) ∧ Below w.heap.size w w' := by
  unfold maxLen at hm
  have g1 := range_part hA (lAt_get hi)
  rw [eLy_n] at g1
  have ol := (okS_iff.1 ho).2 i hi
  have ll := lAt_lt hL i
  obtain ⟨oi, ok⟩ := okc_true (okl_true ol).1
  have be := offE_bounds ol cx.1 cx.2
  have bs := offS_bounds ol cy.1 cy.2
  have cO := fun w' => implOffset_any (lAt L i) x y ll ol cx cy w'
  have cM := fun w' => implCelMoved_any (lAt L i).i (lAt L i).k (offE (lAt L i) x) (offS (lAt L i) y) oi ok be.1 be.2 bs.1 bs.2 w'
  have hbl := build_ld (movedI (lAt L i).i (offE (lAt L i) x) (offS (lAt L i) y) 12) (movedI (lAt L i).k (offE (lAt L i) x) (offS (lAt L i) y) 12) i
  unfold ldAt
  generalize movedI (lAt L i).i (offE (lAt L i) x) (offS (lAt L i) y) 12 = mi at *
  generalize movedI (lAt L i).k (offE (lAt L i) x) (offS (lAt L i) y) 12 = mk at *
  have r := Row.new w 138 (DC zeroLd)
  have h0 := (Below.refl w.heap.size w).alloc (Nat.le_refl _) (.cells (DC zeroLd) 138)
  have lgs := World.block_lt_of_cell? w _ hs
  replace hs := (World.cell?_of_block (w := w) (h0.block gs lgs)).trans hs
  replace hr := hr.below h0 hr.lt
  replace g1 := range_below g1 h0 lb
  replace lb := Nat.lt_of_lt_of_le lb h0.size
  replace lgs := Nat.lt_of_lt_of_le lgs h0.size
  rw [DC_zero] at h0 hs hr g1 lb lgs
  have r' := r
  rw [show w.alloc (.cells (DC zeroLd) 138) = w.alloc (.cells #[.int .u16 0, .int .u16 0, .int .u16 0, .int .u16 0, .int .u16 0, .int .u16 0, .int .u16 0, .int .u16 0, .int .u16 0, .int .u16 0, .int .u16 0, .int .u16 0, .int .u16 0, .int .u16 0, .int .u16 0, .int .u16 0, .int .u16 0, .int .u16 0, .int .u16 0, .int .u16 0, .int .u16 0, .int .u16 0, .int .u16 0, .int .u16 0, .int .i64 0] 138) from rfl] at r'
  clear r hA oi ok be bs ll ol cx cy ho hL
  unfold CM at cO
  go_enter Try.func117, Try.ntmps117
  go_wp2_with fail
  generalize (w.alloc _) = w1 at *
  have c4 : _ = some (Value.int .i64 x) := hr.cell 0
  have c5 : _ = some (Value.int .i64 y) := hr.cell 1
  have d3 := fun dd os => cell_regrown hs dd os
  have d4 := fun dd os => cell_regrown c4 dd os
  have d5 := fun dd os => cell_regrown c5 dd os
  refine wp_region_calm (by kernel_rfl) (by kernel_rfl) ?_
  repeat (first | (refine wpQuiet_load_el (E := eLy) rfl 86 _ rfl _ _ rfl (lAt L i) (LC (lAt L i)) rfl (by with_reducible exact g1) lb Try.underlying86 rfl (by kernel_rfl) ?_) | quiet_step (exact Calls.regrown_of (cO _)))
  refine wpQuiet_nil ?_
  intro w3 hb3
  have s3 := (World.cell?_of_block (w := w1) (hb3.block gs lgs)).trans hs
  have g3 := (layIn (range_below g1 hb3 lb)).cel
  replace r' := Row.below r' hb3 r'.lt
  replace h0 := grown_below h0 hb3 h0.size
  clear c4 c5 d3 d4 d5 hs hr g1 hb3 cO
  go_wp2_with (first
    | (refine wpList_load_celIn rfl 29 _ rfl _ _ rfl (by with_reducible exact g3) Try.underlying29 rfl (by kernel_rfl) ?_)
    | (go_at_call 69; refine (cM _).mono ?_; rintro e w4 ⟨rfl, hb⟩; replace r' := Row.below r' hb r'.lt; replace h0 := grown_below h0 hb h0.size; clear hb)
    | (refine wpList_build2 (u := .agg (CC mi mk)) (v := .int .i64 (i : Int)) rfl 138 0 1 _ _ rfl rfl rfl hbl ?_)
    | (refine wpList_store_row (cs := DC ⟨mi, mk, (i : Int)⟩) rfl 138 _ _ rfl _ rfl r' rfl rfl (DC_one _) (by kernel_rfl) ?_))
  exact bodyPost_ret_row (p := 4) (ty := 138) rfl rfl (Row.setRow r' _) Try.underlying138 rfl (by kernel_rfl) rfl ⟨rfl, below_setRow h0 (Nat.le_refl _) _⟩
theorem laidL_get (L : List Ly) (x y : Int) {k : Nat} (h : k < L.length) : (tab (ldAt L x y) L.length)[k]? = some (ldAt L x y k) := tab_get _ h
set_option maxHeartbeats 1000000 in
theorem laidBefore_any (v : Value) (L : List Ly) (x y : Int) (w : World) (hL : ltLy L) (ho : okS L = true) (cx : -100 ≤ x ∧ x ≤ 100) (cy : -100 ≤ y ∧ y ≤ 100) (h : SlAt eLy w w.heap.size v L) :
    Calls Try.prog 106 #[v, .agg (CM x y)] w (GivesV eLd 138 (tab (ldAt L x y) L.length) w) := by
  have h8 := (okS_iff.1 ho).1
  obtain ⟨A, c, rfl, h1, h2, hA⟩ := h
  have h0 := ((Below.refl w.heap.size w).alloc (Nat.le_refl _) (.cells #[.slice A L.length c] 36)).alloc (by simp) (.cells (CM x y) 108)
  have q1 := (Row.new w 36 #[.slice A L.length c]).alloc (.cells (CM x y) 108)
  have q2 := Row.new (w.alloc (.cells #[.slice A L.length c] 36)) 108 (CM x y)
  rw [World.size_alloc] at q2
  have cB : ∀ w1, Below ((w.alloc (.cells #[.slice A L.length c] 36)).alloc (.cells (CM x y) 108)).heap.size ((w.alloc (.cells #[.slice A L.length c] 36)).alloc (.cells (CM x y) 108)) w1 → ∀ i : Nat, i < L.length →
      Calls Try.prog 117 #[.int .i64 i, .pointer (some ⟨w.heap.size, 0, none⟩), .pointer (some ⟨w.heap.size + 1, 0, none⟩)] w1 fun e w2 => e = .returned (.agg (DC (ldAt L x y i))) ∧ Below w1.heap.size w1 w2 := by
    intro w1 hb i hi
    obtain ⟨b1, o1, rfl, hb1, r1⟩ := hA (by omega)
    exact laidFn_any L x y i hi w.heap.size (w.heap.size + 1) b1 o1 c w1 hL ho cx cy h1 h2 ((Row.below q1 hb q1.lt).cell 0) (Row.below q2 hb q2.lt) (range_below (range_below r1 h0 hb1) hb (Nat.lt_of_lt_of_le hb1 h0.size)) (Nat.lt_of_lt_of_le (Nat.lt_of_lt_of_le hb1 h0.size) hb.size)
  have c1 : _ = some (Value.slice A L.length c) := q1.cell 0
  unfold maxLen at h2
  clear hA hL ho cx cy q1 q2
  unfold CM at *
  go_enter Try.func106, Try.ntmps106
  go_wp2_with fail
  generalize ((w.alloc _).alloc _) = w1 at *
  refine (listByC_ld (L.length : Int) 117 _ _ (ldAt L x y) w1 (by omega) (by omega) (fun _ _ => by kernel_rfl) (fun i hi w2 hb => cB w2 hb i (by omega))).mono ?_
  rintro e w3 ⟨u, rfl, hown, hb3⟩
  go_wp2
  go_ret
  rw [Int.toNat_natCast] at hown
  exact ⟨u, rfl, hown.mono h0.size, grown_below h0 hb3 h0.size⟩
set_option maxHeartbeats 2000000 in
theorem implFlat_any (v : Value) (L : List Ly) (x y : Int) (w : World) (hL : ltLy L) (ho : okS L = true) (cx : -100 ≤ x ∧ x ≤ 100) (cy : -100 ≤ y ∧ y ≤ 100) (h : SlAt eLy w w.heap.size v L) :
    Calls Try.prog 80 #[v, .agg (CM x y)] w fun e w' => e = .returned (.agg (CC (flatI L x y L.length).1 (flatI L x y L.length).2)) ∧ Below w.heap.size w w' := by
  have h8 := (okS_iff.1 ho).1
  have hin := h
  obtain ⟨A, c, rfl, h1, h2, hA⟩ := h
  clear hA
  unfold maxLen at h2
  have q1 := ((Row.new w 108 (CM x y)).alloc (.cells (CC zeroF zeroF) 29)).alloc (.cells (CC zeroF zeroF) 29)
  have a4 := (CelAt.new (w.alloc (.cells (CM x y) 108)) 29 zeroF zeroF).alloc (.cells (CC zeroF zeroF) 29)
  have a5 := CelAt.new ((w.alloc (.cells (CM x y) 108)).alloc (.cells (CC zeroF zeroF) 29)) 29 zeroF zeroF
  rw [World.size_alloc] at a4
  rw [World.size_alloc, World.size_alloc] at a5
  have h0 := (((Below.refl w.heap.size w).alloc (Nat.le_refl _) (.cells (CM x y) 108)).alloc (by simp) (.cells (CC zeroF zeroF) 29)).alloc (by simp; omega) (.cells (CC zeroF zeroF) 29)
  have cL := fun w' (hb : Below w.heap.size w w') => laidBefore_any _ L x y w' hL ho cx cy (hin.later hb)
  have c4 : _ = some (Value.int .i64 x) := q1.cell 0
  have c5 : _ = some (Value.int .i64 y) := q1.cell 1
  clear hin q1
  unfold CM at *
  rw [CC_zero] at a4 a5 h0 c4 c5
  have ib := h0.size
  go_enter Try.func80, Try.ntmps80
  go_wp2_with (go_at_call 106; refine (cL _ h0).mono ?_; rintro e w3 ⟨u, rfl, hown, hb3⟩; replace a4 := a4.below hb3 a4.lt; replace a5 := a5.below hb3 a5.lt; have z5 := a5.lt; replace hown := hown.mono (show w.heap.size + 1 + 1 + 1 ≤ _ by simp); replace h0 := grown_below h0 hb3 h0.size; clear hb3 c4 c5; obtain ⟨B, d, rfl⟩ := hown.val; rw [tab_length] at hown ⊢)
  go_loopw [12] (fun i wr => ∃ k : Nat, k ≤ L.length ∧ i = .int .i64 k ∧ OwnL eLd wr (w.heap.size + 1 + 1 + 1) 138 (.slice B L.length d) (tab (ldAt L x y) L.length) ∧ CelAt wr (w.heap.size + 1) 29 zeroF zeroF ∧ CelAt wr (w.heap.size + 1 + 1) 29 (flatI L x y k).1 (flatI L x y k).2 ∧ Below w.heap.size w wr) (fun i _ => L.length - (intOf i).toNat)
  case atStart => exact ⟨0, by omega, rfl, hown, a4, a5, h0⟩
  case round =>
    clear hown a4 a5 h0
    obtain ⟨k, hk, rfl, hown, a4, a5, hb⟩ := hrel
    by_cases hlt : k < L.length
    · obtain ⟨B', d', he, _, _, hA⟩ := hown.sl (by decide)
      rw [tab_length] at he
      cases he
      obtain ⟨b1, o1, rfl, hb1, r1⟩ := hA (by rw [tab_length]; omega)
      have g1 := range_part r1 (laidL_get L x y hlt)
      rw [eLd_n] at g1
      have ll := lAt_lt hL k
      have fl := flat_lt hL x y k
      have mI := movedI_lt' ll.1 (offE (lAt L k) x) (offS (lAt L k) y)
      have mK := movedI_lt' ll.2.1 (offE (lAt L k) x) (offS (lAt L k) y)
      have cU := fun w' => upon_any (flatI L x y k).1 (flatI L x y k).2 (ldAt L x y k).i (ldAt L x y k).k fl.1 fl.2 mI mK w'
      have hI : ovI (flatI L x y k).1 (flatI L x y k).2 (ldAt L x y k).i = (flatI L x y (k + 1)).1 := rfl
      have hK : joinF (flatI L x y k).2 (ldAt L x y k).k = (flatI L x y (k + 1)).2 := rfl
      rw [hI, hK] at cU
      generalize ldAt L x y k = dk at *
      clear hA r1 ll fl mI mK hI hK cL
      go_wp2_with (first
        | (refine wpList_load_mid rfl 138 _ rfl _ _ rfl (DC dk).toList _ (by exact g1) Try.underlying138 rfl (by kernel_rfl) ?_)
        | (refine wpList_store_row (cs := DC dk) rfl 138 _ _ rfl _ rfl (Row.new wr 138 (DC zeroLd)) rfl rfl (DC_one _) (by kernel_rfl) ?_; rw [setRow_new]; have bn := ld_cel (d := dk) (range_new wr 138 (DC dk)); have ln : wr.heap.size < (wr.alloc (.cells (DC dk) 138)).heap.size := (by simp); replace hown := hown.alloc (.cells (DC dk) 138); replace a4 := a4.alloc (.cells (DC dk) 138); replace a5 := a5.alloc (.cells (DC dk) 138); replace hb := hb.alloc hb.size (.cells (DC dk) 138); generalize wr.heap.size = gn at *; generalize wr.alloc (.cells (DC dk) 138) = w5 at *)
        | (refine wpList_load_cel rfl 29 _ rfl rfl (by with_reducible exact a5) Try.underlying29 rfl (by kernel_rfl) ?_)
        | (refine wpList_load_celIn rfl 29 _ rfl _ _ rfl (by with_reducible exact bn) Try.underlying29 rfl (by kernel_rfl) ?_)
        | (go_at_call 71; refine (cU _).mono ?_; rintro e w6 ⟨rfl, hb6⟩; replace hown := hown.below hb6; replace a4 := a4.below hb6 a4.lt; replace a5 := a5.below hb6 a5.lt; replace hb := grown_below hb hb6 hb.size; clear hb6 bn ln)
        | (refine wpList_store_cel rfl 29 _ _ rfl (by with_reducible exact a5) rfl rfl (by kernel_rfl) ?_; intro a5'))
      go_roundw
      case rel =>
        go_light
        exact ⟨k + 1, by omega, by go_num, hown.wrote (wrote_setRow _ _ _) (hown.ne_lo (by omega)), a4.setRowOther _ (by omega), a5', below_setRow hb (by omega) _⟩
      case measure => simp [intOf]; omega
    · have hkl : k = L.length := by omega
      subst hkl
      clear hown cL
      go_wp2_with (first
        | (refine wpList_load_cel rfl 29 _ rfl rfl (by with_reducible exact a5) Try.underlying29 rfl (by kernel_rfl) ?_)
        | (refine wpList_store_cel rfl 29 _ _ rfl (by with_reducible exact a4) rfl rfl (by kernel_rfl) ?_; intro a4'))
      exact bodyPost_ret_row (p := 4) (ty := 29) rfl rfl a4' Try.underlying29 rfl (by kernel_rfl) rfl ⟨rfl, below_setRow hb (by omega) _⟩
end Go.Proofs.Ytpmlepgnokbpaaa

/- impl: camera.behind, isPan, PanScene. -/
namespace Go.Proofs.Ytpmlepgnokbpaaa
set_option maxRecDepth 100000
open Go.RowKit
set_option linter.unusedVariables false
set_option linter.unusedSimpArgs false
set_option maxHeartbeats 400000 in
theorem behind_any (x y e s : Int) (k : Nat) (hk : k ≤ 40) (hx : -100 ≤ x ∧ x ≤ 100) (hy : -100 ≤ y ∧ y ≤ 100) (he : -100 ≤ e ∧ e ≤ 100) (hs : -100 ≤ s ∧ s ≤ 100) (w : World) :
    Calls Try.prog 84 #[.agg (CM x y), .agg (CM e s), .int .i64 k] w fun e' w' => e' = .returned (.agg (CM (panX x e k) (panX y s k))) ∧ Below w.heap.size w w' := by
  have b1 := mulK_bounds (e := e) hk he.1 he.2
  have b2 := mulK_bounds (e := s) hk hs.1 hs.2
  have m1 : wrap64 (e * (k : Int)) = mulK k e := by rw [Int.mul_comm]; exact IntWalk.wrap64_in _ (by show _ ≤ mulK k e ∧ mulK k e ≤ _; omega)
  have m2 : wrap64 (s * (k : Int)) = mulK k s := by rw [Int.mul_comm]; exact IntWalk.wrap64_in _ (by show _ ≤ mulK k s ∧ mulK k s ≤ _; omega)
  have p1 : IntKind.i64.wrap (x + mulK k e) = panX x e k := IntWalk.i64_in _ (by omega)
  have p2 : IntKind.i64.wrap (y + mulK k s) = panX y s k := IntWalk.i64_in _ (by omega)
  have r := Row.new ((w.alloc (.cells (CM x y) 108)).alloc (.cells (CM e s) 108)) 108 (CM (panX x e k) (panX y s k))
  rw [World.size_alloc, World.size_alloc] at r
  have h0 := (((Below.refl w.heap.size w).alloc (Nat.le_refl _) (.cells (CM x y) 108)).alloc (by simp) (.cells (CM e s) 108)).alloc (by simp; omega) (.cells (CM (panX x e k) (panX y s k)) 108)
  clear b1 b2
  unfold CM at *
  go_enter Try.func84, Try.ntmps84
  go_wp2
  exact bodyPost_ret_row (p := 6) (ty := 108) rfl rfl r Try.underlying108 rfl (by kernel_rfl) rfl ⟨rfl, h0⟩
theorem panB_cases (x y e s n : Int) : (camB x y = false ∧ panB x y e s n = false) ∨ (camB x y = true ∧ camB e s = false ∧ panB x y e s n = false) ∨ (camB x y = true ∧ camB e s = true ∧ n < 0 ∧ panB x y e s n = false) ∨ (camB x y = true ∧ camB e s = true ∧ 0 ≤ n ∧ 40 < n ∧ panB x y e s n = false) ∨ (camB x y = true ∧ camB e s = true ∧ 0 ≤ n ∧ n ≤ 40 ∧ panB x y e s n = camB (panX x e (lastK n)) (panX y s (lastK n))) := by
  have hq : inB n 0 40 = decide (0 ≤ n ∧ n ≤ 40) := rfl
  unfold panB
  rw [hq]
  cases h1 : camB x y
  · left; simp
  · right
    cases h2 : camB e s
    · left; simp
    · right
      by_cases h3 : n < 0
      · left; refine ⟨rfl, rfl, h3, ?_⟩; rw [decide_eq_false (by omega)]; simp
      · right
        by_cases h4 : 40 < n
        · left; refine ⟨rfl, rfl, by omega, h4, ?_⟩; rw [decide_eq_false (by omega)]; simp
        · right; refine ⟨rfl, rfl, by omega, by omega, ?_⟩; rw [decide_eq_true (by omega)]; simp
set_option maxHeartbeats 1000000 in
theorem isPan_any (x y e s n : Int) (hn : (Lit.int .i64 n).wf = true) (w : World) :
    Calls Try.prog 81 #[.agg (CM x y), .agg (CM e s), .int .i64 n] w fun e' w' => e' = .returned (.bool (panB x y e s n)) ∧ Below w.heap.size w w' := by
  have q1 := (Row.new w 108 (CM x y)).alloc (.cells (CM e s) 108)
  have q2 := Row.new (w.alloc (.cells (CM x y) 108)) 108 (CM e s)
  rw [World.size_alloc] at q2
  have h0 := ((Below.refl w.heap.size w).alloc (Nat.le_refl _) (.cells (CM x y) 108)).alloc (by simp) (.cells (CM e s) 108)
  have cR := fun x y w' => inRange_any x y w'
  have c4 : _ = some (Value.int .i64 x) := q1.cell 0
  have c5 : _ = some (Value.int .i64 y) := q1.cell 1
  have c6 : _ = some (Value.int .i64 e) := q2.cell 0
  have c7 : _ = some (Value.int .i64 s) := q2.cell 1
  have A1 := cR x y
  have A2 := cR e s
  clear cR
  rcases panB_cases x y e s n with ⟨g1, ga⟩ | ⟨g1, g2, ga⟩ | ⟨g1, g2, g3, ga⟩ | ⟨g1, g2, g3, g4, ga⟩ | ⟨g1, g2, g3, g4, ga⟩
  case inr.inr.inr.inr =>
    have hx := camB_iff g1
    have he := camB_iff g2
    have lk : lastK n ≤ 40 := by unfold lastK; omega
    have hmax : max (n - 1) 0 = ((lastK n : Nat) : Int) := by unfold lastK; omega
    have hmax2 : (if n - 1 < 0 then (0 : Int) else n - 1) = ((lastK n : Nat) : Int) := by unfold lastK; split <;> omega
    have kw : IntKind.i64.wrap (n - 1) = n - 1 := IntWalk.i64_in _ (by omega)
    have cB := fun w' => behind_any x y e s (lastK n) lk hx.1 hx.2 he.1 he.2 w'
    have A3 := fun w' => inRange_any (panX x e (lastK n)) (panX y s (lastK n)) w'
    rw [g1] at A1
    rw [g2] at A2
    rw [ga]
    generalize lastK n = kk at *
    clear g1 g2 ga hx he
    unfold CM at *
    go_enter Try.func81, Try.ntmps81
    go_wp2_with (first
      | (go_at_call 76; first
          | (with_reducible refine (A1 _).mono ?_; clear A1; rintro e' w1 ⟨rfl, hb⟩; replace q1 := Row.below q1 hb q1.lt; replace q2 := Row.below q2 hb q2.lt; replace h0 := grown_below h0 hb h0.size; clear hb c4 c5 c6 c7; have c4 : _ = some (Value.int .i64 x) := q1.cell 0; have c5 : _ = some (Value.int .i64 y) := q1.cell 1; have c6 : _ = some (Value.int .i64 e) := q2.cell 0; have c7 : _ = some (Value.int .i64 s) := q2.cell 1)
          | (with_reducible refine (A2 _).mono ?_; clear A2; rintro e' w2 ⟨rfl, hb⟩; replace q1 := Row.below q1 hb q1.lt; replace q2 := Row.below q2 hb q2.lt; replace h0 := grown_below h0 hb h0.size; clear hb c4 c5 c6 c7; have c4 : _ = some (Value.int .i64 x) := q1.cell 0; have c5 : _ = some (Value.int .i64 y) := q1.cell 1; have c6 : _ = some (Value.int .i64 e) := q2.cell 0; have c7 : _ = some (Value.int .i64 s) := q2.cell 1)
          | (with_reducible refine (A3 _).mono ?_; clear A3; rintro e' w3 ⟨rfl, hb⟩; replace h0 := grown_below h0 hb h0.size; clear hb c4 c5 c6 c7))
      | (go_at_call 84; refine (cB _).mono ?_; rintro e' w4 ⟨rfl, hb⟩; replace h0 := grown_below h0 hb h0.size; clear hb))
    go_ret
    exact ⟨rfl, h0⟩
  all_goals
    rw [g1] at A1
    try rw [g2] at A2
    rw [ga]
    clear g1 ga
    unfold CM at *
    go_enter Try.func81, Try.ntmps81
    go_wp2_with (go_at_call 76; first
          | (with_reducible refine (A1 _).mono ?_; clear A1; rintro e' w1 ⟨rfl, hb⟩; replace q1 := Row.below q1 hb q1.lt; replace q2 := Row.below q2 hb q2.lt; replace h0 := grown_below h0 hb h0.size; clear hb c4 c5 c6 c7; have c4 : _ = some (Value.int .i64 x) := q1.cell 0; have c5 : _ = some (Value.int .i64 y) := q1.cell 1; have c6 : _ = some (Value.int .i64 e) := q2.cell 0; have c7 : _ = some (Value.int .i64 s) := q2.cell 1)
          | (with_reducible refine (A2 _).mono ?_; clear A2; rintro e' w2 ⟨rfl, hb⟩; replace h0 := grown_below h0 hb h0.size; clear hb c4 c5 c6 c7))
    go_ret
    exact ⟨rfl, h0⟩
end Go.Proofs.Ytpmlepgnokbpaaa
