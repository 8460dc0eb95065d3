import Derived.Test.YtpmlepgnokbpaaaM18
import Derived.Test.YtpmlepgnokbpaaaM2
import Derived.Test.YtpmlepgnokbpaaaRows
import Derived.Test.YtpmlepgnokbpaaaM5
import Derived.Test.YtpmlepgnokbpaaaM12
import Derived.Test.YtpmlepgnokbpaaaM15
import Derived.Test.YtpmlepgnokbpaaaM10
import Derived.Test.YtpmlepgnokbpaaaM17
import Derived.Test.YtpmlepgnokbpaaaM11
/- A cut behind a region whose ways end alike but for the numbers of two blocks; loads of elements and stores of rows in such a region. No function of the program is named. -/
namespace Go.Proofs.Ytpmlepgnokbpaaa
open Go.RowKit
section
variable {P : Program} {ops : Array Oper} {Q : Exit → Act → World → Prop} {S : World → Prop}
theorem wp_cut_two {c : Code} {a : Act} {w : World} (F : Nat → Nat → Act) (R : Nat → Nat → World → Prop) (h : c.wp P (fun e a' w' => e = .normal ∧ ∃ g h, a' = F g h ∧ R g h w') a w) (k : ∀ g h w', R g h w' → Q .normal (F g h) w') : c.wp P Q a w :=
  Code.wp_mono (fun e a' w' ⟨he, g, h, ha, hR⟩ => by subst he; subst ha; exact k g h w' hR) h
theorem yieldsIf_load_el {α : Type} {E : Enc α} {o : Oper} {a : Act} (hgd : o.guard = none) (ty : TypeId) (x : Operand) (ho : o.op = .load ty x) (b off : Nat) (hx : a.eval x = .pointer (some ⟨b, off, none⟩)) (y : α) (cs : Array Value) (hcs : cs.toList = E.c y) (hb : ∀ w, S w → w.rangeAt b off (E.c y)) {d : TypeDesc}
    (hu : P.underlying ty = some d) (hd : d.isRow = true) (hi : (P.info? ty).map (·.size) = some E.n) : YieldsIf P ops S o (.agg cs) a := by
  refine .inl ⟨by simp [Region.wanted, hgd], fun w hS => ?_⟩
  have hl : cs = (E.c y).toArray := by rw [← hcs]
  have hz : (P.info? ty).map (·.size) = some (E.c y).length := by rw [E.len]; exact hi
  unfold execOp
  simp only [ho, hx, Instr.loadAt, Instr.sureAddr, Sem.run_bind, Sem.run_pure, Result.andThen_ok, run_loadVar_mid _ b off ty (E.c y) d (hb w hS) hu hd hz, hl]
theorem wp_store_rowH {o : Oper} {a : Act} {w : World} {K : Act → World → Prop} (ty : TypeId) (x y : Operand) (ho : o.op = .store ty x y) (g : Nat) (hx : a.eval x = .pointer (some ⟨g, 0, none⟩)) {t : TypeId} {cs0 cs : Array Value} (hb : Row w g t cs0)
    (hy : a.eval y = .agg cs) (hs : cs.size = cs0.size) (h1 : ∀ v ∈ cs.toList, v.oneCell' = true) (hi : (P.info? ty).map (·.size) = some cs.size) (h : K (a.put o.dst undef) (w.setRow g cs)) : o.wp P a w K Q := by
  unfold Oper.wp execOp
  simp only [ho, hx, hy, Instr.storeAt, Instr.sureAddr, Sem.run_bind, Sem.run_pure, Result.andThen_ok, run_storeVar_row w g t ty cs0 cs hb hs h1 hi]
  exact h
end
end Go.Proofs.Ytpmlepgnokbpaaa

/- spec: l05Over. -/
namespace Go.Proofs.Ytpmlepgnokbpaaa
set_option maxRecDepth 100000
open Go.RowKit
set_option linter.unusedVariables false
set_option linter.unusedSimpArgs false
set_option maxHeartbeats 2000000 in
theorem specOver_any (b o b2 o2 : Nat) (i k i2 k2 : Nat → Nat) (hi : ∀ y, i y < 65536) (hk : ∀ y, k y < 65536) (hi2 : ∀ y, i2 y < 65536) (hk2 : ∀ y, k2 y < 65536) (w : World) (h : CelIn w b o i k) (lb : b < w.heap.size) (h2 : CelIn w b2 o2 i2 k2) (lb2 : b2 < w.heap.size) :
    Calls Try.prog 70 #[.pointer (some ⟨b, o, none⟩), .pointer (some ⟨b2, o2, none⟩)] w fun e' w' => e' = .returned (.agg (CC (ovI i k i2) (joinF k k2))) ∧ Below w.heap.size w w' := by
  have r := CelAt.new w 29 zeroF zeroF
  have h0 := (Below.refl w.heap.size w).alloc (Nat.le_refl _) (.cells (CC zeroF zeroF) 29)
  have hA := h.below h0 lb
  have hB := h2.below h0 lb2
  have lA := Nat.lt_of_lt_of_le lb h0.size
  have lB := Nat.lt_of_lt_of_le lb2 h0.size
  have hbl := build_cel (ovI i k i2) (joinF k k2)
  rw [CC_zero] at r h0 hA hB lA lB
  clear h h2
  go_enter Try.func70, Try.ntmps70
  go_wp2_with fail
  generalize (w.alloc _) = w0 at *
  have cL := fun w' (hb : Below w0.heap.size w0 w') => specLessAt_any b2 o2 b (o + 12) i2 k hi2 hk w' (range_below hB.ink hb lB) (Nat.lt_of_lt_of_le lB hb.size) (range_below hA.cov hb lA) (Nat.lt_of_lt_of_le lA hb.size)
  refine' wp_cut_blk _ (fun g w' => Blk w' g 27 (lessF i2 k) ∧ Below w0.heap.size w0 w' ∧ w0.heap.size ≤ g) ?hw0 ?kw0
  case' hw0 =>
    refine wp_region_held_drew (S := fun w' => Below w0.heap.size w0 w') (by kernel_rfl) (below_drew_refl w0) (fun hS => ?_)
    generalize w0.drew = v0 at hS ⊢
    refine held_take (i := 0) (v := ?_) rfl (by kernel_rfl) (by kernel_rfl) (by kernel_rfl) (fun _ _ _ h => nomatch h.1) (Or.inl ⟨by rfl, ?_⟩) hS ?_
    rotate_left
    · intro w hSw; go_simp; (try with_reducible rfl)
    try simp only [Act.put, List.setIfInBounds_toArray, List.set_cons_zero, List.set_cons_succ]
    refine held_take (i := 1) (v := ?_) rfl (by kernel_rfl) (by kernel_rfl) (by kernel_rfl) (fun _ _ _ h => nomatch h.1) (Or.inl ⟨by rfl, ?_⟩) hS ?_
    rotate_left
    · intro w hSw; go_simp; (try with_reducible rfl)
    try simp only [Act.put, List.setIfInBounds_toArray, List.set_cons_zero, List.set_cons_succ]
    refine held_take (i := 2) (v := ?_) rfl (by kernel_rfl) (by kernel_rfl) (by kernel_rfl) (fun _ _ _ h => nomatch h.1) (Or.inl ⟨by rfl, ?_⟩) hS ?_
    rotate_left
    · intro w hSw; go_simp; (try with_reducible rfl)
    try simp only [Act.put, List.setIfInBounds_toArray, List.set_cons_zero, List.set_cons_succ]
    refine held_take (i := 3) (v := ?_) rfl (by kernel_rfl) (by kernel_rfl) (by kernel_rfl) (fun _ _ _ h => nomatch h.1) (Or.inl ⟨by rfl, ?_⟩) hS ?_
    rotate_left
    · intro w hSw; go_simp; (try with_reducible rfl)
    try simp only [Act.put, List.setIfInBounds_toArray, List.set_cons_zero, List.set_cons_succ]
    refine held_take (i := 4) (v := ?_) rfl (by kernel_rfl) (by kernel_rfl) (by kernel_rfl) (fun _ _ _ h => nomatch h.1) (Or.inl ⟨by rfl, ?_⟩) hS ?_
    rotate_left
    · intro w hSw; go_simp; (try with_reducible rfl)
    try simp only [Act.put, List.setIfInBounds_toArray, List.set_cons_zero, List.set_cons_succ]
    refine held_take (i := 5) (v := ?_) rfl (by kernel_rfl) (by kernel_rfl) (by kernel_rfl) (fun _ _ _ h => nomatch h.1) (Or.inl ⟨by rfl, ?_⟩) hS ?_
    rotate_left
    · intro w hSw; go_simp; (try with_reducible rfl)
    try simp only [Act.put, List.setIfInBounds_toArray, List.set_cons_zero, List.set_cons_succ]
    refine wpAnyH_ready (rs := [6, 7]) (by kernel_rfl) (by simp) ?_
    refine held_cons rfl (fun K hK => ?_) ?_
    ·
      go_simp
      go_at_call 92
      refine (cL _ hS).mono ?_
      rintro e v1 ⟨rfl, hb1⟩
      refine hK.out _ _ (grown_below hS hb1 hS.size) (fun hS' => ?_)
      clear hK K hS hb1; have hS := hS'; clear hS'; clear v0
      try simp only [Act.put, List.setIfInBounds_toArray, List.set_cons_zero, List.set_cons_succ]
      refine wpAnyH_ready (rs := [7]) (by kernel_rfl) (by simp) ?_
      refine held_cons rfl (fun K hK => ?_) AllReadyH.nil
      go_simp
      refine hK.out _ _ (hS.alloc hS.size _) (fun hS' => ?_)
      have bn := Blk.new v1 27 zeroF
      rw [FC_zero] at bn
      have hg : w0.heap.size ≤ v1.heap.size := hS.size
      clear hK K hS; have hS := hS'; clear hS'
      generalize v1.alloc (.cells #[.int .u16 0, .int .u16 0, .int .u16 0, .int .u16 0, .int .u16 0, .int .u16 0, .int .u16 0, .int .u16 0, .int .u16 0, .int .u16 0, .int .u16 0, .int .u16 0] 27) = v2 at hS bn ⊢
      generalize v1.heap.size = g at hg bn ⊢
      clear v1
      try simp only [Act.put, List.setIfInBounds_toArray, List.set_cons_zero, List.set_cons_succ]
      refine wpAnyH_ready (rs := [8]) (by kernel_rfl) (by simp) ?_
      refine held_cons rfl (fun K hK => ?_) AllReadyH.nil
      rw [if_pos (by rfl)]
      refine wp_store_fr 27 _ _ rfl g rfl bn rfl (by kernel_rfl) ?_
      refine hK.out _ _ (below_setRow hS hg _) (fun hS' => ?_)
      replace bn := bn.setRow (lessF i2 k)
      clear hK K
      try simp only [Act.put, List.setIfInBounds_toArray, List.set_cons_zero, List.set_cons_succ]
      refine wpAnyH_done (by kernel_rfl) ⟨rfl, g, ?_, bn, hS', hg⟩ _
      exact rfl
    refine held_cons rfl (fun K hK => ?_) AllReadyH.nil
    go_simp
    refine hK.out _ _ (hS.alloc hS.size _) (fun hS' => ?_)
    have bn := Blk.new v0 27 zeroF
    rw [FC_zero] at bn
    have hg : w0.heap.size ≤ v0.heap.size := hS.size
    clear hK K hS; have hS := hS'; clear hS'
    generalize v0.alloc (.cells #[.int .u16 0, .int .u16 0, .int .u16 0, .int .u16 0, .int .u16 0, .int .u16 0, .int .u16 0, .int .u16 0, .int .u16 0, .int .u16 0, .int .u16 0, .int .u16 0] 27) = v1 at hS bn ⊢
    generalize v0.heap.size = g at hg bn ⊢
    clear v0
    try simp only [Act.put, List.setIfInBounds_toArray, List.set_cons_zero, List.set_cons_succ]
    refine wpAnyH_ready (rs := [6]) (by kernel_rfl) (by simp) ?_
    refine held_cons rfl (fun K hK => ?_) AllReadyH.nil
    go_simp
    go_at_call 92
    refine (cL _ hS).mono ?_
    rintro e v2 ⟨rfl, hb1⟩
    refine hK.out _ _ (grown_below hS hb1 hS.size) (fun hS' => ?_)
    replace bn := bn.below hb1 bn.lt
    clear hK K hS hb1; have hS := hS'; clear hS'; clear v1
    try simp only [Act.put, List.setIfInBounds_toArray, List.set_cons_zero, List.set_cons_succ]
    refine wpAnyH_ready (rs := [8]) (by kernel_rfl) (by simp) ?_
    refine held_cons rfl (fun K hK => ?_) AllReadyH.nil
    rw [if_pos (by rfl)]
    refine wp_store_fr 27 _ _ rfl g rfl bn rfl (by kernel_rfl) ?_
    refine hK.out _ _ (below_setRow hS hg _) (fun hS' => ?_)
    replace bn := bn.setRow (lessF i2 k)
    clear hK K
    try simp only [Act.put, List.setIfInBounds_toArray, List.set_cons_zero, List.set_cons_succ]
    refine wpAnyH_done (by kernel_rfl) ⟨rfl, g, ?_, bn, hS', hg⟩ _
    exact rfl
  rintro g w1 ⟨bn, hb, hg⟩
  replace r := r.below hb r.lt
  replace hA := hA.below hb lA
  replace hB := hB.below hb lB
  replace lA := Nat.lt_of_lt_of_le lA hb.size
  replace lB := Nat.lt_of_lt_of_le lB hb.size
  replace h0 := grown_below h0 hb h0.size
  have rn := bn.range
  have ln := bn.lt
  clear hb cL bn
  have cI := fun w' (hb : Below w1.heap.size w1 w') => specJoinAt_any b o g 0 i (lessF i2 k) hi (lessF_lt hi2) w' (range_below hA.ink hb lA) (Nat.lt_of_lt_of_le lA hb.size) (range_below rn hb ln) (Nat.lt_of_lt_of_le ln hb.size)
  have cK := fun w' (hb : Below w1.heap.size w1 w') => specJoinAt_any b (o + 12) b2 (o2 + 12) k k2 hk hk2 w' (range_below hA.cov hb lA) (Nat.lt_of_lt_of_le lA hb.size) (range_below hB.cov hb lB) (Nat.lt_of_lt_of_le lB hb.size)
  rw [show joinF i (lessF i2 k) = ovI i k i2 from rfl] at cI
  go_wp2_with fail
  refine wp_region_tail 12 (by kernel_rfl) (by kernel_rfl) ?_
  simp only [List.take_succ_cons, List.take_zero, List.drop_succ_cons, List.drop_zero]
  repeat (first | (refine wpQuiet_build2 (u := .agg (FC (ovI i k i2))) (v := .agg (FC (joinF k k2))) rfl 29 0 1 _ _ rfl rfl rfl hbl ?_) | quiet_step (first | with_reducible exact Calls.regrown_of (cI _ (below_regrown _ _ _)) | with_reducible exact Calls.regrown_of (cK _ (below_regrown _ _ _))))
  refine wpQuiet_nil ?_
  intro w3 hb3
  replace r := r.below hb3 r.lt
  replace h0 := grown_below h0 hb3 h0.size
  clear cI cK hb3
  go_wp2_with (refine wpList_store_cel rfl 29 _ _ rfl r rfl rfl (by kernel_rfl) ?_; intro r')
  exact bodyPost_ret_row (p := 4) (ty := 29) rfl rfl r' Try.underlying29 rfl (by kernel_rfl) rfl ⟨rfl, below_setRow h0 (Nat.le_refl _) _⟩
end Go.Proofs.Ytpmlepgnokbpaaa

/- spec: l05Flat, FlattenScene, ShowScene. -/
namespace Go.Proofs.Ytpmlepgnokbpaaa
set_option maxRecDepth 100000
open Go.RowKit
set_option linter.unusedVariables false
set_option linter.unusedSimpArgs false
set_option maxHeartbeats 2000000 in
theorem specFlat_any (v : Value) (L : List Ly) (x y : Int) (w : World) (hL : ltLy L) (ho : okS L = true) (cx : -100 ≤ x ∧ x ≤ 100) (cy : -100 ≤ y ∧ y ≤ 100) (h : SlAt eLy w w.heap.size v L) :
    Calls Try.prog 79 #[v, .int .i64 x, .int .i64 y] w fun e w' => e = .returned (.agg (CC (flatI L x y L.length).1 (flatI L x y L.length).2)) ∧ Below w.heap.size w w' := by
  obtain ⟨A, c, rfl, h1, h2, hA⟩ := h
  unfold maxLen at h2
  have a6 := (CelAt.new w 29 zeroF zeroF).alloc (.cells (CC zeroF zeroF) 29)
  have a7 := CelAt.new (w.alloc (.cells (CC zeroF zeroF) 29)) 29 zeroF zeroF
  rw [World.size_alloc] at a7
  have h0 := ((Below.refl w.heap.size w).alloc (Nat.le_refl _) (.cells (CC zeroF zeroF) 29)).alloc (by simp) (.cells (CC zeroF zeroF) 29)
  have hoL := okS_iff.1 ho
  clear ho
  rw [CC_zero] at a6 a7 h0
  go_enter Try.func79, Try.ntmps79
  go_wp2_with (refine wpList_store_cel (i := zeroF) (k := zeroF) rfl 29 _ _ rfl (by with_reducible exact a7) rfl rfl (by kernel_rfl) ?_; intro a7')
  replace a6 := a6.setRowOther (CC zeroF zeroF) (show w.heap.size ≠ w.heap.size + 1 by omega)
  replace h0 := below_setRow h0 (show w.heap.size ≤ w.heap.size + 1 by omega) (CC zeroF zeroF)
  clear a7
  have a7 := a7'
  clear a7'
  generalize World.setRow _ _ _ = w1 at *
  go_loopw [8] (fun i wr => ∃ k : Nat, k ≤ L.length ∧ i = .int .i64 k ∧ CelAt wr w.heap.size 29 zeroF zeroF ∧ CelAt wr (w.heap.size + 1) 29 (flatI L x y k).1 (flatI L x y k).2 ∧ Below w.heap.size w wr) (fun i _ => L.length - (intOf i).toNat)
  case atStart => exact ⟨0, by omega, rfl, a6, a7, h0⟩
  case round =>
    clear a6 a7 h0
    obtain ⟨k, hk, rfl, a6, a7, hb⟩ := hrel
    by_cases hlt : k < L.length
    · obtain ⟨b1, o1, rfl, hb1, r1⟩ := hA (by omega)
      have g1 := layIn (by have := range_part r1 (lAt_get hlt); rw [eLy_n] at this; exact this)
      have ol := hoL.2 k hlt
      have ll := lAt_lt hL k
      obtain ⟨oi, ok⟩ := okc_true (okl_true ol).1
      have be := offE_bounds ol cx.1 cx.2
      have bs := offS_bounds ol cy.1 cy.2
      have fl := flat_lt hL x y k
      have cO := fun w' (h : LayIn w' b1 (o1 + k * 27) (lAt L k)) lb => specOffset_any b1 (o1 + k * 27) (lAt L k) x y ll ol cx cy w' h lb
      have cM := fun w' (h : LayIn w' b1 (o1 + k * 27) (lAt L k)) lb => specCelMoved_any b1 (o1 + k * 27) (lAt L k).i (lAt L k).k (offE (lAt L k) x) (offS (lAt L k) y) oi ok ll.1 ll.2.1 be.1 be.2 bs.1 bs.2 w' h.cel lb
      have mI := movedI_lt' ll.1 (offE (lAt L k) x) (offS (lAt L k) y)
      have mK := movedI_lt' ll.2.1 (offE (lAt L k) x) (offS (lAt L k) y)
      have hI : (flatI L x y (k + 1)).1 = ovI (flatI L x y k).1 (flatI L x y k).2 (movedI (lAt L k).i (offE (lAt L k) x) (offS (lAt L k) y) 12) := rfl
      have hK : (flatI L x y (k + 1)).2 = joinF (flatI L x y k).2 (movedI (lAt L k).k (offE (lAt L k) x) (offS (lAt L k) y) 12) := rfl
      generalize movedI (lAt L k).i (offE (lAt L k) x) (offS (lAt L k) y) 12 = mi at *
      generalize movedI (lAt L k).k (offE (lAt L k) x) (offS (lAt L k) y) 12 = mk at *
      have HI := Lib.hid hI
      have HK := Lib.hid hK
      have G := g1.below hb hb1
      have l1 := Nat.lt_of_lt_of_le hb1 hb.size
      clear hA r1 g1 oi ok be bs hI hK
      go_wp2_with (first
        | (go_at_call 74; refine (cO _ G l1).mono ?_; rintro e w3 ⟨rfl, hb3⟩; replace G := G.below hb3 l1; replace l1 := Nat.lt_of_lt_of_le l1 hb3.size; replace a6 := a6.below hb3 a6.lt; replace a7 := a7.below hb3 a7.lt; replace hb := grown_below hb hb3 hb.size; clear hb3 cO)
        | (go_at_call 67; refine (cM _ G l1).mono ?_; rintro e w4 ⟨rfl, hb3⟩; replace a6 := a6.below hb3 a6.lt; replace a7 := a7.below hb3 a7.lt; replace hb := grown_below hb hb3 hb.size; clear hb3 cM G l1)
        | (refine wpList_store_celNew (i0 := zeroF) (k0 := zeroF) (i := mi) (k := mk) rfl 29 _ _ rfl rfl rfl (by kernel_rfl) ?_; have bn := CelAt.new w4 29 mi mk; replace a6 := a6.alloc (.cells (CC mi mk) 29); replace a7 := a7.alloc (.cells (CC mi mk) 29); replace hb := hb.alloc hb.size (.cells (CC mi mk) 29); generalize w4.heap.size = gn at *; generalize w4.alloc (.cells (CC mi mk) 29) = w5 at *)
        | (go_at_call 70; refine (specOver_any _ 0 _ 0 _ _ _ _ fl.1 fl.2 mI mK _ a7.cells a7.lt bn.cells bn.lt).mono ?_; rintro e w6 ⟨rfl, hb3⟩; replace a6 := a6.below hb3 a6.lt; replace a7 := a7.below hb3 a7.lt; replace hb := grown_below hb hb3 hb.size; clear hb3)
        | (refine wpList_store_cel rfl 29 _ _ rfl (by with_reducible exact a7) rfl rfl (by kernel_rfl) ?_; intro a7'))
      go_roundw
      case rel =>
        go_light
        refine ⟨k + 1, by omega, by go_num, a6.setRowOther _ (by omega), ?_, below_setRow hb (by omega) _⟩
        rw [HI.out, HK.out]
        exact a7'
      case measure => simp [intOf]; omega
    · have hkl : k = L.length := by omega
      subst hkl
      clear hA
      go_wp2_with (first
        | (refine wpList_load_cel rfl 29 _ rfl rfl (by with_reducible exact a7) Try.underlying29 rfl (by kernel_rfl) ?_)
        | (refine wpList_store_cel rfl 29 _ _ rfl (by with_reducible exact a6) rfl rfl (by kernel_rfl) ?_; intro a6'))
      exact bodyPost_ret_row (p := 6) (ty := 29) rfl rfl a6' Try.underlying29 rfl (by kernel_rfl) rfl ⟨rfl, below_setRow hb (Nat.le_refl _) _⟩
/-- What FlattenScene returns. -/
def fsI (L : List Ly) (x y : Int) : Nat → Nat := ifC (camC L x y) (flatI L x y L.length).1
def fsK (L : List Ly) (x y : Int) : Nat → Nat := ifC (camC L x y) (flatI L x y L.length).2
theorem camC_not {L : List Ly} {x y : Int} (h : camC L x y ≠ 0) : fsI L x y = zeroF ∧ fsK L x y = zeroF := by
  unfold fsI fsK ifC; rw [if_neg h, if_neg h]; exact ⟨rfl, rfl⟩
theorem camC_yes {L : List Ly} {x y : Int} (h : camC L x y = 0) : fsI L x y = (flatI L x y L.length).1 ∧ fsK L x y = (flatI L x y L.length).2 := by
  unfold fsI fsK ifC; rw [if_pos h, if_pos h]; exact ⟨rfl, rfl⟩
set_option maxHeartbeats 1000000 in
theorem specFlatten_any (v : Value) (L : List Ly) (x y : Int) (w : World) (hL : ltLy L) (h : SlAt eLy w w.heap.size v L) :
    Calls Try.prog 40 #[v, .int .i64 x, .int .i64 y] w fun e w' => e = .returned (.tuple #[.agg (CC (fsI L x y) (fsK L x y)), .int .i64 (camC L x y)]) ∧ Below w.heap.size w w' := by
  have a6 := CelAt.new w 29 zeroF zeroF
  have h0 := (Below.refl w.heap.size w).alloc (Nat.le_refl _) (.cells (CC zeroF zeroF) 29)
  have cC := fun w' (hb : Below w.heap.size w w') => specCamera_any v L x y w' hL (h.later hb)
  have cF := fun w' (hb : Below w.heap.size w w') ho cx cy => specFlat_any v L x y w' hL ho cx cy (h.later hb)
  obtain ⟨A, c, rfl, h1, h2, hA⟩ := h
  clear hA
  rw [CC_zero] at a6 h0
  by_cases hc : camC L x y = 0
  · obtain ⟨e1, e2⟩ := camC_yes hc
    obtain ⟨o1, o2, o3⟩ := camC_zero hc
    have cF' := fun w' hb => cF w' hb o1 o2 o3
    rw [← e1, ← e2] at cF'
    rw [hc] at cC ⊢
    clear hc e1 e2 o1 o2 o3 cF
    go_enter Try.func40, Try.ntmps40
    go_wp2_with (first
      | (go_at_call 72; refine (cC _ h0).mono ?_; rintro e w1 ⟨rfl, hb⟩; replace a6 := a6.below hb a6.lt; replace h0 := grown_below h0 hb h0.size; clear hb)
      | (go_at_call 79; refine (cF' _ h0).mono ?_; rintro e w2 ⟨rfl, hb⟩; replace a6 := a6.below hb a6.lt; replace h0 := grown_below h0 hb h0.size; clear hb)
      | (refine wpList_store_cel rfl 29 _ _ rfl (by with_reducible exact a6) rfl rfl (by kernel_rfl) ?_; intro a6'))
    exact bodyPost_ret_row2 (p := 6) (u := 7) (ty := 29) rfl rfl a6' Try.underlying29 rfl (by kernel_rfl) rfl ⟨rfl, below_setRow h0 (Nat.le_refl _) _⟩
  · obtain ⟨e1, e2⟩ := camC_not hc
    rw [e1, e2]
    have d : (camC L x y != 0) = true := by simp [hc]
    generalize camC L x y = cc at *
    clear hc e1 e2 cF
    go_enter Try.func40, Try.ntmps40
    go_wp2_with (first
      | (go_at_call 72; refine (cC _ h0).mono ?_; rintro e w1 ⟨rfl, hb⟩; replace a6 := a6.below hb a6.lt; replace h0 := grown_below h0 hb h0.size; clear hb)
      | (refine wpList_store_cel (i := zeroF) (k := zeroF) rfl 29 _ _ rfl (by with_reducible exact a6) rfl rfl (by kernel_rfl) ?_; intro a6'))
    exact bodyPost_ret_row2 (p := 6) (u := 7) (ty := 29) rfl rfl a6' Try.underlying29 rfl (by kernel_rfl) rfl ⟨rfl, below_setRow h0 (Nat.le_refl _) _⟩
set_option maxHeartbeats 1000000 in
theorem specShow_any (v : Value) (L : List Ly) (x y : Int) (w : World) (hL : ltLy L) (h : SlAt eLy w w.heap.size v L) :
    Calls Try.prog 38 #[v, .int .i64 x, .int .i64 y] w fun e w' => e = .returned (.tuple #[.agg (FC (fsI L x y)), .int .i64 (camC L x y)]) ∧ Below w.heap.size w w' := by
  have a6 := Blk.new w 27 zeroF
  have h0 := (Below.refl w.heap.size w).alloc (Nat.le_refl _) (.cells (FC zeroF) 27)
  have cC := fun w' (hb : Below w.heap.size w w') => specCamera_any v L x y w' hL (h.later hb)
  have cF := fun w' (hb : Below w.heap.size w w') ho cx cy => specFlat_any v L x y w' hL ho cx cy (h.later hb)
  obtain ⟨A, c, rfl, h1, h2, hA⟩ := h
  clear hA
  rw [FC_zero] at a6 h0
  by_cases hc : camC L x y = 0
  · obtain ⟨e1, e2⟩ := camC_yes hc
    obtain ⟨o1, o2, o3⟩ := camC_zero hc
    have cF' := fun w' hb => cF w' hb o1 o2 o3
    rw [← e1, ← e2] at cF'
    rw [hc] at cC ⊢
    clear hc e1 e2 o1 o2 o3 cF
    generalize fsI L x y = fi at *
    generalize fsK L x y = fk at *
    go_enter Try.func38, Try.ntmps38
    go_wp2_with (first
      | (go_at_call 72; refine (cC _ h0).mono ?_; rintro e w1 ⟨rfl, hb⟩; replace a6 := a6.below hb a6.lt; replace h0 := grown_below h0 hb h0.size; clear hb)
      | (go_at_call 79; refine (cF' _ h0).mono ?_; rintro e w2 ⟨rfl, hb⟩; replace a6 := a6.below hb a6.lt; replace h0 := grown_below h0 hb h0.size; clear hb)
      | (refine wpList_store_celNew (i0 := zeroF) (k0 := zeroF) (i := fi) (k := fk) rfl 29 _ _ rfl rfl rfl (by kernel_rfl) ?_; have bn := CelAt.new w2 29 fi fk; replace a6 := a6.alloc (.cells (CC fi fk) 29); replace h0 := h0.alloc h0.size (.cells (CC fi fk) 29); generalize w2.heap.size = gn at *; generalize w2.alloc (.cells (CC fi fk) 29) = w5 at *)
      | (refine wpList_load_at rfl 27 22 _ rfl _ _ rfl (by with_reducible exact bn.ink) Try.underlying27 (by kernel_rfl) ?_)
      | (refine wpList_store_fr rfl 27 _ _ rfl _ rfl (by with_reducible exact a6) rfl (by kernel_rfl) ?_))
    exact bodyPost_ret_fr2 (p := 6) (u := 7) (ty := 27) (e := 22) rfl rfl (a6.setRow _) Try.underlying27 (by kernel_rfl) rfl ⟨rfl, below_setRow h0 (Nat.le_refl _) _⟩
  · obtain ⟨e1, e2⟩ := camC_not hc
    rw [e1]
    have d : (camC L x y != 0) = true := by simp [hc]
    generalize camC L x y = cc at *
    clear hc e1 e2 cF
    go_enter Try.func38, Try.ntmps38
    go_wp2_with (first
      | (go_at_call 72; refine (cC _ h0).mono ?_; rintro e w1 ⟨rfl, hb⟩; replace a6 := a6.below hb a6.lt; replace h0 := grown_below h0 hb h0.size; clear hb)
      | (refine wpList_store_fr (f := zeroF) rfl 27 _ _ rfl _ rfl (by with_reducible exact a6) rfl (by kernel_rfl) ?_))
    exact bodyPost_ret_fr2 (p := 6) (u := 7) (ty := 27) (e := 22) rfl rfl (a6.setRow _) Try.underlying27 (by kernel_rfl) rfl ⟨rfl, below_setRow h0 (Nat.le_refl _) _⟩
end Go.Proofs.Ytpmlepgnokbpaaa
