import Derived.Test.YtpmlepgnokbpaaaM13
import Derived.Test.YtpmlepgnokbpaaaM14
import Derived.Test.YtpmlepgnokbpaaaM5
import Derived.Test.YtpmlepgnokbpaaaRows
import Derived.Test.YtpmlepgnokbpaaaM4
import Derived.Test.YtpmlepgnokbpaaaM8
/- spec: l05Flat, FlattenScene, ShowScene. -/
namespace Go.Proofs.Ytpmlepgnokbpaaa
set_option maxRecDepth 100000
open Go.RowKit
set_option linter.unusedVariables false
set_option linter.unusedSimpArgs false
set_option maxHeartbeats 2000000 in
theorem specFlat_any (v : Value) (L : List Ly) (x y : Int) (w : World) (hL : ltLy L) (ho : okS L = true) (cx : -100 ≤ x ∧ x ≤ 100) (cy : -100 ≤ y ∧ y ≤ 100) (h : SlAt eLy w w.heap.size v L) :
    Calls Try.prog 79 #[v, .int .i64 x, .int .i64 y] w fun e w' => e = .returned (.agg (CC (flatI L x y L.length).1 (flatI L x y L.length).2)) ∧ Below w.heap.size w w' := by
  obtain ⟨A, c, rfl, h1, h2, hA⟩ := h
  unfold maxLen at h2
  have a6 := (CelAt.new w 29 zeroF zeroF).alloc (.cells (CC zeroF zeroF) 29)
  have a7 := CelAt.new (w.alloc (.cells (CC zeroF zeroF) 29)) 29 zeroF zeroF
  rw [World.size_alloc] at a7
  have h0 := ((Below.refl w.heap.size w).alloc (Nat.le_refl _) (.cells (CC zeroF zeroF) 29)).alloc (by simp) (.cells (CC zeroF zeroF) 29)
  have hoL := okS_iff.1 ho
  clear ho
  rw [CC_zero] at a6 a7 h0
  go_enter Try.func79, Try.ntmps79
  go_wp2_with (refine wpList_store_cel (i := zeroF) (k := zeroF) rfl 29 _ _ rfl (by with_reducible exact a7) rfl rfl (by kernel_rfl) ?_; intro a7')
  replace a6 := a6.setRowOther (CC zeroF zeroF) (show w.heap.size ≠ w.heap.size + 1 by omega)
  replace h0 := below_setRow h0 (show w.heap.size ≤ w.heap.size + 1 by omega) (CC zeroF zeroF)
  clear a7
  have a7 := a7'
  clear a7'
  generalize World.setRow _ _ _ = w1 at *
  go_loopw [8] (fun i wr => ∃ k : Nat, k ≤ L.length ∧ i = .int .i64 k ∧ CelAt wr w.heap.size 29 zeroF zeroF ∧ CelAt wr (w.heap.size + 1) 29 (flatI L x y k).1 (flatI L x y k).2 ∧ Below w.heap.size w wr) (fun i _ => L.length - (intOf i).toNat)
  case atStart => exact ⟨0, by omega, rfl, a6, a7, h0⟩
  case round =>
    clear a6 a7 h0
    obtain ⟨k, hk, rfl, a6, a7, hb⟩ := hrel
    by_cases hlt : k < L.length
    · obtain ⟨b1, o1, rfl, hb1, r1⟩ := hA (by omega)
      have g1 := layIn (by have := range_part r1 (lAt_get hlt); rw [eLy_n] at this; exact this)
      have ol := hoL.2 k hlt
      have ll := lAt_lt hL k
      obtain ⟨oi, ok⟩ := okc_true (okl_true ol).1
      have be := offE_bounds ol cx.1 cx.2
      have bs := offS_bounds ol cy.1 cy.2
      have fl := flat_lt hL x y k
      have cO := fun w' (h : LayIn w' b1 (o1 + k * 27) (lAt L k)) lb => specOffset_any b1 (o1 + k * 27) (lAt L k) x y ll ol cx cy w' h lb
      have cM := fun w' (h : LayIn w' b1 (o1 + k * 27) (lAt L k)) lb => specCelMoved_any b1 (o1 + k * 27) (lAt L k).i (lAt L k).k (offE (lAt L k) x) (offS (lAt L k) y) oi ok ll.1 ll.2.1 be.1 be.2 bs.1 bs.2 w' h.cel lb
      have mI := movedI_lt' ll.1 (offE (lAt L k) x) (offS (lAt L k) y)
      have mK := movedI_lt' ll.2.1 (offE (lAt L k) x) (offS (lAt L k) y)
      have hI : (flatI L x y (k + 1)).1 = ovI (flatI L x y k).1 (flatI L x y k).2 (movedI (lAt L k).i (offE (lAt L k) x) (offS (lAt L k) y) 12) := rfl
      have hK : (flatI L x y (k + 1)).2 = joinF (flatI L x y k).2 (movedI (lAt L k).k (offE (lAt L k) x) (offS (lAt L k) y) 12) := rfl
      generalize movedI (lAt L k).i (offE (lAt L k) x) (offS (lAt L k) y) 12 = mi at *
      generalize movedI (lAt L k).k (offE (lAt L k) x) (offS (lAt L k) y) 12 = mk at *
      have HI := Lib.hid hI
      have HK := Lib.hid hK
      have G := g1.below hb hb1
      have l1 := Nat.lt_of_lt_of_le hb1 hb.size
      clear hA r1 g1 oi ok be bs hI hK
      go_wp2_with (first
        | (go_at_call 74; refine (cO _ G l1).mono ?_; rintro e w3 ⟨rfl, hb3⟩; replace G := G.below hb3 l1; replace l1 := Nat.lt_of_lt_of_le l1 hb3.size; replace a6 := a6.below hb3 a6.lt; replace a7 := a7.below hb3 a7.lt; replace hb := grown_below hb hb3 hb.size; clear hb3 cO)
        | (go_at_call 67; refine (cM _ G l1).mono ?_; rintro e w4 ⟨rfl, hb3⟩; replace a6 := a6.below hb3 a6.lt; replace a7 := a7.below hb3 a7.lt; replace hb := grown_below hb hb3 hb.size; clear hb3 cM G l1)
        | (refine wpList_store_celNew (i0 := zeroF) (k0 := zeroF) (i := mi) (k := mk) rfl 29 _ _ rfl rfl rfl (by kernel_rfl) ?_; have bn := CelAt.new w4 29 mi mk; replace a6 := a6.alloc (.cells (CC mi mk) 29); replace a7 := a7.alloc (.cells (CC mi mk) 29); replace hb := hb.alloc hb.size (.cells (CC mi mk) 29); generalize w4.heap.size = gn at *; generalize w4.alloc (.cells (CC mi mk) 29) = w5 at *)
        | (go_at_call 70; refine (specOver_any _ 0 _ 0 _ _ _ _ fl.1 fl.2 mI mK _ a7.cells a7.lt bn.cells bn.lt).mono ?_; rintro e w6 ⟨rfl, hb3⟩; replace a6 := a6.below hb3 a6.lt; replace a7 := a7.below hb3 a7.lt; replace hb := grown_below hb hb3 hb.size; clear hb3)
        | (refine wpList_store_cel rfl 29 _ _ rfl (by with_reducible exact a7) rfl rfl (by kernel_rfl) ?_; intro a7'))
      go_roundw
      case rel =>
        go_light
        refine ⟨k + 1, by omega, by go_num, a6.setRowOther _ (by omega), ?_, below_setRow hb (by omega) _⟩
        rw [HI.out, HK.out]
        exact a7'
      case measure => simp [intOf]; omega
    · have hkl : k = L.length := by omega
      subst hkl
      clear hA
      go_wp2_with (first
        | (refine wpList_load_cel rfl 29 _ rfl rfl (by with_reducible exact a7) Try.underlying29 rfl (by kernel_rfl) ?_)
        | (refine wpList_store_cel rfl 29 _ _ rfl (by with_reducible exact a6) rfl rfl (by kernel_rfl) ?_; intro a6'))
      exact bodyPost_ret_row (p := 6) (ty := 29) rfl rfl a6' Try.underlying29 rfl (by kernel_rfl) rfl ⟨rfl, below_setRow hb (Nat.le_refl _) _⟩
/-- What FlattenScene returns. -/
def fsI (L : List Ly) (x y : Int) : Nat → Nat := ifC (camC L x y) (flatI L x y L.length).1
def fsK (L : List Ly) (x y : Int) : Nat → Nat := ifC (camC L x y) (flatI L x y L.length).2
theorem camC_not {L : List Ly} {x y : Int} (h : camC L x y ≠ 0) : fsI L x y = zeroF ∧ fsK L x y = zeroF := by
  unfold fsI fsK ifC; rw [if_neg h, if_neg h]; exact ⟨rfl, rfl⟩
theorem camC_yes {L : List Ly} {x y : Int} (h : camC L x y = 0) : fsI L x y = (flatI L x y L.length).1 ∧ fsK L x y = (flatI L x y L.length).2 := by
  unfold fsI fsK ifC; rw [if_pos h, if_pos h]; exact ⟨rfl, rfl⟩
set_option maxHeartbeats 1000000 in
theorem specFlatten_any (v : Value) (L : List Ly) (x y : Int) (w : World) (hL : ltLy L) (h : SlAt eLy w w.heap.size v L) :
    Calls Try.prog 40 #[v, .int .i64 x, .int .i64 y] w fun e w' => e = .returned (.tuple #[.agg (CC (fsI L x y) (fsK L x y)), .int .i64 (camC L x y)]) ∧ Below w.heap.size w w' := by
  have a6 := CelAt.new w 29 zeroF zeroF
  have h0 := (Below.refl w.heap.size w).alloc (Nat.le_refl _) (.cells (CC zeroF zeroF) 29)
  have cC := fun w' (hb : Below w.heap.size w w') => specCamera_any v L x y w' hL (h.later hb)
  have cF := fun w' (hb : Below w.heap.size w w') ho cx cy => specFlat_any v L x y w' hL ho cx cy (h.later hb)
  obtain ⟨A, c, rfl, h1, h2, hA⟩ := h
  clear hA
  rw [CC_zero] at a6 h0
  by_cases hc : camC L x y = 0
  · obtain ⟨e1, e2⟩ := camC_yes hc
    obtain ⟨o1, o2, o3⟩ := camC_zero hc
    have cF' := fun w' hb => cF w' hb o1 o2 o3
    rw [← e1, ← e2] at cF'
    rw [hc] at cC ⊢
    clear hc e1 e2 o1 o2 o3 cF
    go_enter Try.func40, Try.ntmps40
    go_wp2_with (first
      | (go_at_call 72; refine (cC _ h0).mono ?_; rintro e w1 ⟨rfl, hb⟩; replace a6 := a6.below hb a6.lt; replace h0 := grown_below h0 hb h0.size; clear hb)
      | (go_at_call 79; refine (cF' _ h0).mono ?_; rintro e w2 ⟨rfl, hb⟩; replace a6 := a6.below hb a6.lt; replace h0 := grown_below h0 hb h0.size; clear hb)
      | (refine wpList_store_cel rfl 29 _ _ rfl (by with_reducible exact a6) rfl rfl (by kernel_rfl) ?_; intro a6'))
    exact bodyPost_ret_row2 (p := 6) (u := 7) (ty := 29) rfl rfl a6' Try.underlying29 rfl (by kernel_rfl) rfl ⟨rfl, below_setRow h0 (Nat.le_refl _) _⟩
  · obtain ⟨e1, e2⟩ := camC_not hc
    rw [e1, e2]
    have d : (camC L x y != 0) = true := by simp [hc]
    generalize camC L x y = cc at *
    clear hc e1 e2 cF
    go_enter Try.func40, Try.ntmps40
    go_wp2_with (first
      | (go_at_call 72; refine (cC _ h0).mono ?_; rintro e w1 ⟨rfl, hb⟩; replace a6 := a6.below hb a6.lt; replace h0 := grown_below h0 hb h0.size; clear hb)
      | (refine wpList_store_cel (i := zeroF) (k := zeroF) rfl 29 _ _ rfl (by with_reducible exact a6) rfl rfl (by kernel_rfl) ?_; intro a6'))
    exact bodyPost_ret_row2 (p := 6) (u := 7) (ty := 29) rfl rfl a6' Try.underlying29 rfl (by kernel_rfl) rfl ⟨rfl, below_setRow h0 (Nat.le_refl _) _⟩
set_option maxHeartbeats 1000000 in
theorem specShow_any (v : Value) (L : List Ly) (x y : Int) (w : World) (hL : ltLy L) (h : SlAt eLy w w.heap.size v L) :
    Calls Try.prog 38 #[v, .int .i64 x, .int .i64 y] w fun e w' => e = .returned (.tuple #[.agg (FC (fsI L x y)), .int .i64 (camC L x y)]) ∧ Below w.heap.size w w' := by
  have a6 := Blk.new w 27 zeroF
  have h0 := (Below.refl w.heap.size w).alloc (Nat.le_refl _) (.cells (FC zeroF) 27)
  have cC := fun w' (hb : Below w.heap.size w w') => specCamera_any v L x y w' hL (h.later hb)
  have cF := fun w' (hb : Below w.heap.size w w') ho cx cy => specFlat_any v L x y w' hL ho cx cy (h.later hb)
  obtain ⟨A, c, rfl, h1, h2, hA⟩ := h
  clear hA
  rw [FC_zero] at a6 h0
  by_cases hc : camC L x y = 0
  · obtain ⟨e1, e2⟩ := camC_yes hc
    obtain ⟨o1, o2, o3⟩ := camC_zero hc
    have cF' := fun w' hb => cF w' hb o1 o2 o3
    rw [← e1, ← e2] at cF'
    rw [hc] at cC ⊢
    clear hc e1 e2 o1 o2 o3 cF
    generalize fsI L x y = fi at *
    generalize fsK L x y = fk at *
    go_enter Try.func38, Try.ntmps38
    go_wp2_with (first
      | (go_at_call 72; refine (cC _ h0).mono ?_; rintro e w1 ⟨rfl, hb⟩; replace a6 := a6.below hb a6.lt; replace h0 := grown_below h0 hb h0.size; clear hb)
      | (go_at_call 79; refine (cF' _ h0).mono ?_; rintro e w2 ⟨rfl, hb⟩; replace a6 := a6.below hb a6.lt; replace h0 := grown_below h0 hb h0.size; clear hb)
      | (refine wpList_store_celNew (i0 := zeroF) (k0 := zeroF) (i := fi) (k := fk) rfl 29 _ _ rfl rfl rfl (by kernel_rfl) ?_; have bn := CelAt.new w2 29 fi fk; replace a6 := a6.alloc (.cells (CC fi fk) 29); replace h0 := h0.alloc h0.size (.cells (CC fi fk) 29); generalize w2.heap.size = gn at *; generalize w2.alloc (.cells (CC fi fk) 29) = w5 at *)
      | (refine wpList_load_at rfl 27 22 _ rfl _ _ rfl (by with_reducible exact bn.ink) Try.underlying27 (by kernel_rfl) ?_)
      | (refine wpList_store_fr rfl 27 _ _ rfl _ rfl (by with_reducible exact a6) rfl (by kernel_rfl) ?_))
    exact bodyPost_ret_fr2 (p := 6) (u := 7) (ty := 27) (e := 22) rfl rfl (a6.setRow _) Try.underlying27 (by kernel_rfl) rfl ⟨rfl, below_setRow h0 (Nat.le_refl _) _⟩
  · obtain ⟨e1, e2⟩ := camC_not hc
    rw [e1]
    have d : (camC L x y != 0) = true := by simp [hc]
    generalize camC L x y = cc at *
    clear hc e1 e2 cF
    go_enter Try.func38, Try.ntmps38
    go_wp2_with (first
      | (go_at_call 72; refine (cC _ h0).mono ?_; rintro e w1 ⟨rfl, hb⟩; replace a6 := a6.below hb a6.lt; replace h0 := grown_below h0 hb h0.size; clear hb)
      | (refine wpList_store_fr (f := zeroF) rfl 27 _ _ rfl _ rfl (by with_reducible exact a6) rfl (by kernel_rfl) ?_))
    exact bodyPost_ret_fr2 (p := 6) (u := 7) (ty := 27) (e := 22) rfl rfl (a6.setRow _) Try.underlying27 (by kernel_rfl) rfl ⟨rfl, below_setRow h0 (Nat.le_refl _) _⟩
end Go.Proofs.Ytpmlepgnokbpaaa

/- impl.listBy of frames at a closure of three captured variables. -/
namespace Go.Proofs.Ytpmlepgnokbpaaa
set_option maxRecDepth 100000
open Go.RowKit
set_option linter.unusedVariables false
theorem run_build_frlM (w : World) (f : Nat → Nat) : (Instr.buildSlice 59 1 #[(0, .agg (FC f))]).run Try.prog w = .ok (.slice (some ⟨w.heap.size, 0, none⟩) 1 1) (w.alloc (.cells (FC f) 27)) := by kernel_rfl
theorem run_build_frlN (w : World) (f : Nat → Nat) : (Instr.buildSlice 60 1 #[(0, .agg (FC f))]).run Try.prog w = .ok (.slice (some ⟨w.heap.size, 0, none⟩) 1 1) (w.alloc (.cells (FC f) 27)) := by kernel_rfl
theorem infoFrL : (Try.prog.info? 27).map (fun i => (i.zero, i.size, i.bytes)) = some (some (.agg (FC zeroF)), eFr.n, 24) := by kernel_rfl
set_option maxHeartbeats 400000 in
theorem listByC3L_fr (n : Int) (fid : FuncId) (c1 c2 c3 : Value) (F : Nat → (Nat → Nat)) (w : World) (hn1 : -1 ≤ n) (hn2 : n ≤ 1000000)
    (hcall : ∀ x w, (callFunc fid #[.int .i64 x, c1, c2, c3]).run Try.prog w = .ok (.enter fid #[.int .i64 x, c1, c2, c3]) w)
    (hbody : ∀ i : Nat, (i : Int) < n → ∀ w1, Below w.heap.size w w1 → Calls Try.prog fid #[.int .i64 i, c1, c2, c3] w1 fun e w2 => e = .returned (.agg (FC (F i))) ∧ Below w1.heap.size w1 w2) :
    Calls Try.prog 82 #[.int .i64 n, .func (.func fid) #[] #[c1, c2, c3]] w (GivesV eFr 27 (tab F n.toNat) w) := by
  have hown := OwnL.nil_ (E := eFr) w w.heap.size 27
  have HB := Lib.hid hbody
  clear hbody
  go_enter Try.func82, Try.ntmps82
  go_wp2
  go_loopw [5, 8] (fun u i wr => ∃ k : Nat, k ≤ n.toNat ∧ i = .int .i64 k ∧ OwnL eFr wr w.heap.size 27 u (tab F k) ∧ Below w.heap.size w wr) (fun _ i _ => n.toNat - (intOf i).toNat)
  case atStart => exact ⟨0, by omega, rfl, hown, Below.refl _ _⟩
  case round =>
    clear hown
    obtain ⟨k, hk, rfl, hown, hb⟩ := hrel
    by_cases hlt : (k : Int) < n
    · go_wp2_with fail
      refine (HB.out k hlt wr hb).mono ?_
      rintro e w3 ⟨rfl, hb3⟩
      replace hb := grown_below hb hb3 hb.size
      replace hown := hown.below hb3
      clear hb3
      go_wp2_with (first | (refine wpList_build1 (v := .agg (FC (F k))) (cs := FC (F k)) rfl 59 27 _ rfl rfl (fun w => run_build_frlM w (F k)) ?_) | (at_builtin; refine wpList_append_one rfl _ _ 59 rfl w.heap.size 27 Try.underlying59 infoFrL rfl (by decide) (by omega) (hown.alloc (.cells (FC (F k)) 27)) rfl (F k) rfl (range_new _ _ (FC (F k))) (by rw [tab_length]; omega) (by have := hb.size; simp; omega) ?_; intro v' w4 hown' hgrow))
      go_roundw
      case rel =>
        go_light
        refine ⟨k + 1, by omega, by go_num, ?_, (hown.alloc _).grown_below (hb.alloc hb.size _) hgrow (Nat.le_refl _) (by have := hb.size; simp; omega)⟩
        rw [tab_succ]; exact hown'
      case measure => simp [intOf]; omega
    · have hkn : k = n.toNat := by omega
      subst hkn
      go_wp2
      go_ret
      exact ⟨_, rfl, hown, hb⟩
end Go.Proofs.Ytpmlepgnokbpaaa

/- spec: PanScene. -/
namespace Go.Proofs.Ytpmlepgnokbpaaa
set_option maxRecDepth 100000
open Go.RowKit
set_option linter.unusedVariables false
set_option linter.unusedSimpArgs false
theorem panC_A {L : List Ly} {x y e s n : Int} (h : camC L x y ≠ 0) : panC L x y e s n = camC L x y := by
  unfold panC panB camC at *
  cases h1 : okS L <;> cases h2 : camB x y <;> simp_all
theorem panC_B {L : List Ly} {x y e s n : Int} (h : camC L x y = 0) (hb : (inB n 0 40 && camB e s) = false) : panC L x y e s n = 2 := by
  obtain ⟨h1, _⟩ := camC_zero h
  unfold panC panB
  rw [h1]
  cases h2 : inB n 0 40 <;> cases h3 : camB e s <;> simp_all
theorem panC_C2 {L : List Ly} {x y e s n : Int} (h : camC L x y = 0) {j : Nat} (hj : (j : Int) < n) (hb : camB (panX x e j) (panX y s j) = false) : panC L x y e s n = 2 := by
  obtain ⟨h1, _⟩ := camC_zero h
  have hp : panB x y e s n = false := by
    cases hq : panB x y e s n with
    | false => rfl
    | true => rw [panB_all hq j hj] at hb; cases hb
  unfold panC
  rw [h1, hp]; rfl
theorem panC_C0 {L : List Ly} {x y e s n : Int} (h : camC L x y = 0) (h2 : inB n 0 40 = true) (h3 : camB e s = true) (ha : ∀ k : Nat, (k : Int) < n → camB (panX x e k) (panX y s k) = true) : panC L x y e s n = 0 := by
  obtain ⟨h1, hx, hy⟩ := camC_zero h
  have hc : camB x y = true := by unfold camB; rw [inB_iff.2 hx, inB_iff.2 hy]; rfl
  unfold panC
  rw [h1, panB_of hc h3 h2 ha]; rfl
theorem camB_of {x y : Int} (h : camB x y = true) : (-100 ≤ x ∧ x ≤ 100) ∧ -100 ≤ y ∧ y ≤ 100 := by
  unfold camB at h
  simp only [Bool.and_eq_true, inB_iff] at h
  exact h
theorem camC_ok {L : List Ly} (h : okS L = true) (x y : Int) : camC L x y = if camB x y then 0 else 2 := by unfold camC; rw [h]; rfl
set_option maxHeartbeats 2000000 in
theorem specPan_any (v : Value) (L : List Ly) (x y e s n : Int) (w : World) (hL : ltLy L) (h : SlAt eLy w w.heap.size v L) :
    Calls Try.prog 42 #[v, .int .i64 x, .int .i64 y, .int .i64 e, .int .i64 s, .int .i64 n] w (GivesL eFr 27 (ifL (panC L x y e s n) (panL L x y e s n)) (panC L x y e s n) w) := by
  have cC := fun x y w' (hb : Below w.heap.size w w') => specCamera_any v L x y w' hL (h.later hb)
  have cF := fun x y ho cx cy w' (hb : Below w.heap.size w w') => specFlat_any v L x y w' hL ho cx cy (h.later hb)
  have cN := fun n a b w => in_any n a b w
  have hr := Below.refl w.heap.size w
  obtain ⟨A, c, rfl, h1, h2, hA⟩ := h
  clear hA
  by_cases hc : camC L x y = 0
  case neg =>
    rw [panC_A hc, ifL1 _ hc]
    have cC1 := cC x y
    have d0 : (camC L x y == 0) = false := by simp [hc]
    have d1 : (camC L x y != 0) = true := by simp [hc]
    generalize camC L x y = cc at *
    clear hc cC cF
    by_cases hn0 : 0 < n
    all_goals
      go_enter Try.func42, Try.ntmps42
      go_wp2_with (go_at_call 72; refine (cC1 _ hr).mono ?_; rintro e' w1 ⟨rfl, hb⟩)
      go_loopw [14, 15] (fun u i wr => u = .int .i64 cc ∧ i = .int .i64 0 ∧ Below w.heap.size w wr) (fun _ _ _ => 0)
      case atStart => exact ⟨rfl, rfl, hb⟩
      case round =>
        clear hb
        obtain ⟨rfl, rfl, hb⟩ := hrel
        go_wp2
        go_ret2
        exact ⟨_, rfl, OwnL.made _ _ _ hb.size, hb.alloc hb.size _⟩
  case pos =>
    obtain ⟨ho, cx, cy⟩ := camC_zero hc
    have cC1 := cC x y
    rw [hc] at cC1
    by_cases hlim : (inB n 0 40 && camB e s) = true
    case neg =>
      rw [Bool.not_eq_true] at hlim
      rw [panC_B hc hlim, ifL1 _ (by decide)]
      clear cC cF hc ho cx cy
      unfold camB at hlim
      have key : ∀ b1 b2 b3 : Bool, inB n 0 40 = b1 → inB e (-100) 100 = b2 → inB s (-100) 100 = b3 → (b1 && (b2 && b3)) = false →
          Calls Try.prog 42 #[.slice A L.length c, .int .i64 x, .int .i64 y, .int .i64 e, .int .i64 s, .int .i64 n] w (GivesL eFr 27 [] 2 w) := by
        intro b1 b2 b3 q1 q2 q3 hq
        by_cases hn0 : 0 < n <;> cases b1 <;> cases b2 <;> cases b3 <;> first | cases hq | skip
        all_goals
          try clear hq
          clear hlim
          go_enter Try.func42, Try.ntmps42
          go_wp2_with (first | (go_at_call 72; refine (cC1 _ hr).mono ?_; rintro e' w1 ⟨rfl, hb⟩) | (go_at_call 73; refine (cN _ _ _ _).mono ?_; rintro e' w' ⟨rfl, rfl⟩))
          go_loopw [14, 15] (fun u i wr => u = .int .i64 2 ∧ i = .int .i64 0 ∧ Below w.heap.size w wr) (fun _ _ _ => 0)
          case atStart => exact ⟨rfl, rfl, hb⟩
          case round =>
            clear hb
            obtain ⟨rfl, rfl, hb⟩ := hrel
            go_wp2
            go_ret2
            exact ⟨_, rfl, OwnL.made _ _ _ hb.size, hb.alloc hb.size _⟩
      exact key _ _ _ rfl rfl rfl hlim
    case pos =>
      rw [Bool.and_eq_true] at hlim
      obtain ⟨q1, q23⟩ := hlim
      have q23' := q23
      unfold camB at q23'
      rw [Bool.and_eq_true] at q23'
      obtain ⟨q2, q3⟩ := q23'
      have n1 := inB_iff.1 q1
      have e1 := inB_iff.1 q2
      have s1 := inB_iff.1 q3
      have C2 := fun j hj hb => panC_C2 (e := e) (s := s) (n := n) hc (j := j) hj hb
      have C0 := fun ha => panC_C0 (e := e) (s := s) (n := n) hc q1 q23 ha
      have cK := fun k : Nat => cC (panX x e k) (panX y s k)
      simp only [camC_ok ho] at cK
      have KM := fun (k : Nat) (e : Int) (hk : k ≤ 40) (a : -100 ≤ e) (b : e ≤ 100) => mulK_bounds (e := e) hk a b
      obtain ⟨m, rfl⟩ : ∃ m : Nat, n = (m : Int) := ⟨n.toNat, by omega⟩
      have CF := Lib.hid cF
      have CK := Lib.hid cK
      have C2' := Lib.hid C2
      have C0' := Lib.hid C0
      have KM' := Lib.hid KM
      clear cF cK C2 C0 KM cC hc q23
      go_enter Try.func42, Try.ntmps42
      go_wp2_with (first | (go_at_call 72; refine (cC1 _ hr).mono ?_; rintro e' w1 ⟨rfl, hb⟩; clear cC1) | (go_at_call 73; refine (cN _ _ _ _).mono ?_; rintro e' w' ⟨rfl, rfl⟩))
      go_loopw [14, 15] (fun u i wr => ∃ k : Nat, k ≤ m ∧ i = .int .i64 k ∧ ((u = .int .i64 0 ∧ ∀ j, j < k → camB (panX x e j) (panX y s j) = true) ∨ (u = .int .i64 2 ∧ ∃ j, j < k ∧ camB (panX x e j) (panX y s j) = false)) ∧ Below w.heap.size w wr) (fun _ i _ => m - (intOf i).toNat)
      case atStart => exact ⟨0, by omega, rfl, .inl ⟨rfl, by omega⟩, hb⟩
      case round =>
        clear hb
        obtain ⟨k, hk, rfl, hu, hb⟩ := hrel
        rcases hu with ⟨rfl, ha⟩ | ⟨rfl, j, hj, hf⟩
        case inr =>
          have HC := Lib.hid (C2'.out j (by omega) hf)
          clear hf hj
          by_cases hlt : (k : Int) < m
          all_goals
            go_wp2
            go_ret2
            exact ⟨.slice (some ⟨wr.heap.size, 0, none⟩) 0 0, (by rw [HC.out]; rfl), by rw [HC.out, ifL1 _ (by decide)]; exact OwnL.made _ _ _ hb.size, hb.alloc hb.size _⟩
        case inl =>
          have HA := Lib.hid ha
          clear ha
          by_cases hlt : (k : Int) < m
          · have b1 := KM'.out k e (by omega) e1.1 e1.2
            have b2 := KM'.out k s (by omega) s1.1 s1.2
            have m1 : wrap64 ((k : Int) * e) = mulK k e := IntWalk.wrap64_in _ (by show _ ≤ mulK k e ∧ mulK k e ≤ _; omega)
            have m2 : wrap64 ((k : Int) * s) = mulK k s := IntWalk.wrap64_in _ (by show _ ≤ mulK k s ∧ mulK k s ≤ _; omega)
            have p1 : IntKind.i64.wrap (x + mulK k e) = panX x e k := IntWalk.i64_in _ (by omega)
            have p2 : IntKind.i64.wrap (y + mulK k s) = panX y s k := IntWalk.i64_in _ (by omega)
            have ck := CK.out k wr hb
            cases hcb : camB (panX x e k) (panX y s k) with
            | true =>
              rw [hcb, if_pos rfl] at ck
              have HB := Lib.hid hcb
              clear hcb b1 b2
              go_wp2_with (go_at_call 72; refine ck.mono ?_; rintro e' w3 ⟨rfl, hb3⟩; replace hb := grown_below hb hb3 hb.size; clear hb3 ck)
              go_roundw
              case rel =>
                go_light
                refine ⟨k + 1, by omega, by go_num, .inl ⟨rfl, fun j hj => ?_⟩, hb⟩
                rcases Nat.lt_succ_iff_lt_or_eq.1 hj with h | rfl
                · exact HA.out j h
                · exact HB.out
              case measure => simp [intOf]; omega
            | false =>
              rw [hcb, if_neg (by decide)] at ck
              have HB := Lib.hid hcb
              clear hcb b1 b2
              go_wp2_with (go_at_call 72; refine ck.mono ?_; rintro e' w3 ⟨rfl, hb3⟩; replace hb := grown_below hb hb3 hb.size; clear hb3 ck)
              go_roundw
              case rel =>
                go_light
                exact ⟨k + 1, by omega, by go_num, .inr ⟨rfl, k, by omega, HB.out⟩, hb⟩
              case measure => simp [intOf]; omega
          · have hkm : k = m := by omega
            subst hkm
            have HC := Lib.hid (C0'.out (fun j hj => HA.out j (by omega)))
            clear C0' C2' CK
            go_wp2
            have hown := OwnL.made (E := eFr) wr w.heap.size 27 hb.size
            replace hb := hb.alloc hb.size (.cells #[] 27)
            generalize (wr.alloc (.cells #[] 27)) = w4 at *
            go_loopw [16, 17] (fun u i wr => ∃ q : Nat, q ≤ k ∧ i = .int .i64 q ∧ OwnL eFr wr w.heap.size 27 u (tab (fun k => (flatI L (panX x e k) (panX y s k) L.length).1) q) ∧ Below w.heap.size w wr) (fun _ i _ => k - (intOf i).toNat)
            case atStart => exact ⟨0, by omega, rfl, hown, hb⟩
            case round =>
              clear hown hb
              obtain ⟨q, hq, rfl, hown, hb⟩ := hrel
              by_cases hlt2 : (q : Int) < k
              · have b1 := KM'.out q e (by omega) e1.1 e1.2
                have b2 := KM'.out q s (by omega) s1.1 s1.2
                have m1 : wrap64 ((q : Int) * e) = mulK q e := IntWalk.wrap64_in _ (by show _ ≤ mulK q e ∧ mulK q e ≤ _; omega)
                have m2 : wrap64 ((q : Int) * s) = mulK q s := IntWalk.wrap64_in _ (by show _ ≤ mulK q s ∧ mulK q s ≤ _; omega)
                have p1 : IntKind.i64.wrap (x + mulK q e) = panX x e q := IntWalk.i64_in _ (by omega)
                have p2 : IntKind.i64.wrap (y + mulK q s) = panX y s q := IntWalk.i64_in _ (by omega)
                obtain ⟨gx, gy⟩ := camB_of (HA.out q (by omega))
                have cf := CF.out (panX x e q) (panX y s q) ho gx gy wr hb
                generalize hfl : flatI L (panX x e q) (panX y s q) L.length = fl at *
                have HF := Lib.hid hfl
                clear hfl b1 b2 gx gy
                go_wp2_with (first
                  | (go_at_call 79; refine cf.mono ?_; rintro e' w5 ⟨rfl, hb3⟩; replace hown := hown.below hb3; replace hb := grown_below hb hb3 hb.size; clear hb3 cf)
                  | (refine wpList_store_celNew (i0 := zeroF) (k0 := zeroF) (i := fl.1) (k := fl.2) rfl 29 _ _ rfl rfl rfl (by kernel_rfl) ?_; have bn := CelAt.new w5 29 fl.1 fl.2; replace hown := hown.alloc (.cells (CC fl.1 fl.2) 29); replace hb := hb.alloc hb.size (.cells (CC fl.1 fl.2) 29); generalize w5.heap.size = gn at *; generalize w5.alloc (.cells (CC fl.1 fl.2) 29) = w6 at *)
                  | (refine wpList_load_at rfl 27 22 _ rfl _ _ rfl (by with_reducible exact bn.ink) Try.underlying27 (by kernel_rfl) ?_; clear bn)
                  | (refine wpList_build1 (v := .agg (FC fl.1)) (cs := FC fl.1) rfl 60 27 _ rfl rfl (fun w => run_build_frlN w fl.1) ?_)
                  | (at_builtin; refine wpList_append_one rfl _ _ 60 rfl w.heap.size 27 Try.underlying60 infoFrL rfl (by decide) (by omega) (hown.alloc (.cells (FC fl.1) 27)) rfl fl.1 rfl (range_new _ _ (FC fl.1)) (by rw [tab_length]; omega) (by have := hb.size; simp; omega) ?_; intro v' w7 hown' hgrow))
                go_roundw
                case rel =>
                  go_light
                  refine ⟨q + 1, by omega, by go_num, ?_, (hown.alloc _).grown_below (hb.alloc hb.size _) hgrow (Nat.le_refl _) (by have := hb.size; simp; omega)⟩
                  rw [tab_succ, HF.out]; exact hown'
                case measure => simp [intOf]; omega
              · have hqk : q = k := by omega
                subst hqk
                go_wp2
                go_ret2
                exact ⟨_, (by rw [HC.out]; rfl), by rw [HC.out, ifL0]; unfold panL; rw [Int.toNat_natCast]; exact hown, hb⟩
end Go.Proofs.Ytpmlepgnokbpaaa
