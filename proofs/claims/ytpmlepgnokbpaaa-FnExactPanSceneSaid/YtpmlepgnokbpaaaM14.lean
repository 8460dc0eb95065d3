import Derived.Test.YtpmlepgnokbpaaaM1
import Derived.OrdersHeld
import Derived.Deep.RegionHeld
import Derived.Test.YtpmlepgnokbpaaaM2
import Derived.Test.YtpmlepgnokbpaaaRows
import Derived.Test.YtpmlepgnokbpaaaM4
import Derived.Test.YtpmlepgnokbpaaaM6
import Derived.Test.YtpmlepgnokbpaaaM11
import Derived.Test.YtpmlepgnokbpaaaM10
/- A region that draws its order and in which a block is laid beside calls: walked with S := 'nothing that was there has turned' (the library's wpAnyH), the loads of whole frames first. And a cut behind a region whose ways end alike but for the number of a block. No function of the program is named. -/
namespace Go.Proofs.Ytpmlepgnokbpaaa
open Go.RowKit
section
variable {P : Program} {ops : Array Oper} {Q : Exit → Act → World → Prop} {md : Region.Mode} {S : World → Prop}
theorem yieldsIf_load_fr {o : Oper} {a : Act} (hgd : o.guard = none) (ty e : TypeId) (x : Operand) (ho : o.op = .load ty x) (g : Nat) (hx : a.eval x = .pointer (some ⟨g, 0, none⟩)) {t : TypeId} {f : Nat → Nat} (hb : ∀ w, S w → Blk w g t f)
    (hu : P.underlying ty = some (.array 12 e)) (hi : (P.info? ty).map (·.size) = some 12) : YieldsIf P ops S o (.agg (FC f)) a := by
  refine .inl ⟨by simp [Region.wanted, hgd], fun w hS => ?_⟩
  unfold execOp
  simp only [ho, hx, Instr.loadAt, Instr.sureAddr, Sem.run_bind, Sem.run_pure, Result.andThen_ok, run_loadVar_row _ g t ty (FC f) (0, 0) _ (hb w hS) hu rfl hi]
theorem yieldsIf_load_row {o : Oper} {a : Act} (hgd : o.guard = none) (ty : TypeId) (x : Operand) (ho : o.op = .load ty x) (g : Nat) (hx : a.eval x = .pointer (some ⟨g, 0, none⟩)) {t : TypeId} {cs : Array Value} {d : TypeDesc} (hb : ∀ w, S w → Row w g t cs)
    (hu : P.underlying ty = some d) (hd : (match d with | .struct _ | .array _ _ => true | _ => false) = true) (hi : (P.info? ty).map (·.size) = some cs.size) : YieldsIf P ops S o (.agg cs) a := by
  refine .inl ⟨by simp [Region.wanted, hgd], fun w hS => ?_⟩
  unfold execOp
  simp only [ho, hx, Instr.loadAt, Instr.sureAddr, Sem.run_bind, Sem.run_pure, Result.andThen_ok, run_loadVar_row _ g t ty cs (0, 0) d (hb w hS) hu hd hi]
/-- A region whose ways all end normally, in one state but for the number g of a block, at worlds of which R is known. -/
theorem wp_cut_blk {c : Code} {a : Act} {w : World} (F : Nat → Act) (R : Nat → World → Prop) (h : c.wp P (fun e a' w' => e = .normal ∧ ∃ g, a' = F g ∧ R g w') a w) (k : ∀ g w', R g w' → Q .normal (F g) w') : c.wp P Q a w :=
  Code.wp_mono (fun e a' w' ⟨he, g, ha, hR⟩ => by subst he; subst ha; exact k g w' hR) h
/-- The same for a value that a call hands back. -/
theorem wp_cut_val {c : Code} {a : Act} {w : World} (F : Value → Act) (R : Value → World → Prop) (h : c.wp P (fun e a' w' => e = .normal ∧ ∃ v, a' = F v ∧ R v w') a w) (k : ∀ v w', R v w' → Q .normal (F v) w') : c.wp P Q a w :=
  Code.wp_mono (fun e a' w' ⟨he, g, ha, hR⟩ => by subst he; subst ha; exact k g w' hR) h
theorem wp_store_fr {o : Oper} {a : Act} {w : World} {K : Act → World → Prop} (ty : TypeId) (x y : Operand) (ho : o.op = .store ty x y) (g : Nat) (hx : a.eval x = .pointer (some ⟨g, 0, none⟩)) {t : TypeId} {f0 f : Nat → Nat} (hb : Blk w g t f0)
    (hy : a.eval y = .agg (FC f)) (hi : (P.info? ty).map (·.size) = some 12) (h : K (a.put o.dst undef) (w.setRow g (FC f))) : o.wp P a w K Q := by
  unfold Oper.wp execOp
  simp only [ho, hx, hy, Instr.storeAt, Instr.sureAddr, Sem.run_bind, Sem.run_pure, Result.andThen_ok, run_storeVar_fr w g t ty f0 f hb hi]
  exact h
/-- The library's moves with the operation read off the written list, so that it stands written out. -/
theorem get_of_drop {l : List Oper} {i : Nat} {o : Oper} {rest : List Oper} (h : l.drop i = o :: rest) : l.toArray[i]? = some o := by
  have : (l.drop i)[0]? = some o := by rw [h]; rfl
  simpa [List.getElem?_drop] using this
theorem held_take {l : List Oper} {i : Nat} {o : Oper} {rest : List Oper} {v : Value} {fuel : Nat} {listed : Array Bool} {a : Act} {w : World} (hi : l.drop i = o :: rest)
    (hs : Region.noSelect l.toArray = true) (hf : Region.free md l.toArray listed i = true) (hr : (Region.ready md l.toArray listed).contains i = true)
    (hQ : ∀ c a w, Q (.panic c) (a.put o.dst v) w → Q (.panic c) a w) (hy : YieldsIf P l.toArray S o v a) (hS : S w)
    (h : wpAnyH P md l.toArray Q S fuel (listed.setIfInBounds i true) (a.put o.dst v) w) : wpAnyH P md l.toArray Q S (fuel + 1) listed a w :=
  wpAnyH_take (get_of_drop hi) hs hf hr hQ hy hS h
theorem held_cons {l : List Oper} {fuel : Nat} {listed : Array Bool} {a : Act} {w : World} {i : Nat} {o : Oper} {rest : List Oper} {rs : List Nat} (hi : l.drop i = o :: rest)
    (h : ∀ K' : Act → World → Prop, Shut (∀ a w, S w → (S w → wpAnyH P md l.toArray Q S fuel (listed.setIfInBounds i true) a w) → K' a w) → if Region.wanted o (yielded l.toArray a.tmps) = true then Oper.wp P o a w K' Q else K' (a.put o.dst undef) w)
    (hs : AllReadyH P md l.toArray Q S fuel listed a w rs) : AllReadyH P md l.toArray Q S fuel listed a w (i :: rs) :=
  AllReadyH.cons (get_of_drop hi) h hs
end
theorem below_drew_refl (w : World) : Below w.heap.size w w.drew := ⟨rfl, rfl, rfl, Nat.le_refl _, fun _ _ => rfl⟩
end Go.Proofs.Ytpmlepgnokbpaaa

/- A cut behind a region whose ways end alike but for the numbers of two blocks; loads of elements and stores of rows in such a region. No function of the program is named. -/
namespace Go.Proofs.Ytpmlepgnokbpaaa
open Go.RowKit
section
variable {P : Program} {ops : Array Oper} {Q : Exit → Act → World → Prop} {S : World → Prop}
theorem wp_cut_two {c : Code} {a : Act} {w : World} (F : Nat → Nat → Act) (R : Nat → Nat → World → Prop) (h : c.wp P (fun e a' w' => e = .normal ∧ ∃ g h, a' = F g h ∧ R g h w') a w) (k : ∀ g h w', R g h w' → Q .normal (F g h) w') : c.wp P Q a w :=
  Code.wp_mono (fun e a' w' ⟨he, g, h, ha, hR⟩ => by subst he; subst ha; exact k g h w' hR) h
theorem yieldsIf_load_el {α : Type} {E : Enc α} {o : Oper} {a : Act} (hgd : o.guard = none) (ty : TypeId) (x : Operand) (ho : o.op = .load ty x) (b off : Nat) (hx : a.eval x = .pointer (some ⟨b, off, none⟩)) (y : α) (cs : Array Value) (hcs : cs.toList = E.c y) (hb : ∀ w, S w → w.rangeAt b off (E.c y)) {d : TypeDesc}
    (hu : P.underlying ty = some d) (hd : d.isRow = true) (hi : (P.info? ty).map (·.size) = some E.n) : YieldsIf P ops S o (.agg cs) a := by
  refine .inl ⟨by simp [Region.wanted, hgd], fun w hS => ?_⟩
  have hl : cs = (E.c y).toArray := by rw [← hcs]
  have hz : (P.info? ty).map (·.size) = some (E.c y).length := by rw [E.len]; exact hi
  unfold execOp
  simp only [ho, hx, Instr.loadAt, Instr.sureAddr, Sem.run_bind, Sem.run_pure, Result.andThen_ok, run_loadVar_mid _ b off ty (E.c y) d (hb w hS) hu hd hz, hl]
theorem wp_store_rowH {o : Oper} {a : Act} {w : World} {K : Act → World → Prop} (ty : TypeId) (x y : Operand) (ho : o.op = .store ty x y) (g : Nat) (hx : a.eval x = .pointer (some ⟨g, 0, none⟩)) {t : TypeId} {cs0 cs : Array Value} (hb : Row w g t cs0)
    (hy : a.eval y = .agg cs) (hs : cs.size = cs0.size) (h1 : ∀ v ∈ cs.toList, v.oneCell' = true) (hi : (P.info? ty).map (·.size) = some cs.size) (h : K (a.put o.dst undef) (w.setRow g cs)) : o.wp P a w K Q := by
  unfold Oper.wp execOp
  simp only [ho, hx, hy, Instr.storeAt, Instr.sureAddr, Sem.run_bind, Sem.run_pure, Result.andThen_ok, run_storeVar_row w g t ty cs0 cs hb hs h1 hi]
  exact h
end
end Go.Proofs.Ytpmlepgnokbpaaa

/- spec: l05Over. -/
namespace Go.Proofs.Ytpmlepgnokbpaaa
set_option maxRecDepth 100000
open Go.RowKit
set_option linter.unusedVariables false
set_option linter.unusedSimpArgs false
set_option maxHeartbeats 2000000 in
theorem specOver_any (b o b2 o2 : Nat) (i k i2 k2 : Nat → Nat) (hi : ∀ y, i y < 65536) (hk : ∀ y, k y < 65536) (hi2 : ∀ y, i2 y < 65536) (hk2 : ∀ y, k2 y < 65536) (w : World) (h : CelIn w b o i k) (lb : b < w.heap.size) (h2 : CelIn w b2 o2 i2 k2) (lb2 : b2 < w.heap.size) :
    Calls Try.prog 70 #[.pointer (some ⟨b, o, none⟩), .pointer (some ⟨b2, o2, none⟩)] w fun e' w' => e' = .returned (.agg (CC (ovI i k i2) (joinF k k2))) ∧ Below w.heap.size w w' := by
  have r := CelAt.new w 29 zeroF zeroF
  have h0 := (Below.refl w.heap.size w).alloc (Nat.le_refl _) (.cells (CC zeroF zeroF) 29)
  have hA := h.below h0 lb
  have hB := h2.below h0 lb2
  have lA := Nat.lt_of_lt_of_le lb h0.size
  have lB := Nat.lt_of_lt_of_le lb2 h0.size
  have hbl := build_cel (ovI i k i2) (joinF k k2)
  rw [CC_zero] at r h0 hA hB lA lB
  clear h h2
  go_enter Try.func70, Try.ntmps70
  go_wp2_with fail
  generalize (w.alloc _) = w0 at *
  have cL := fun w' (hb : Below w0.heap.size w0 w') => specLessAt_any b2 o2 b (o + 12) i2 k hi2 hk w' (range_below hB.ink hb lB) (Nat.lt_of_lt_of_le lB hb.size) (range_below hA.cov hb lA) (Nat.lt_of_lt_of_le lA hb.size)
  refine' wp_cut_blk _ (fun g w' => Blk w' g 27 (lessF i2 k) ∧ Below w0.heap.size w0 w' ∧ w0.heap.size ≤ g) ?hw0 ?kw0
  case' hw0 =>
    refine wp_region_held_drew (S := fun w' => Below w0.heap.size w0 w') (by kernel_rfl) (below_drew_refl w0) (fun hS => ?_)
    generalize w0.drew = v0 at hS ⊢
    refine held_take (i := 0) (v := ?_) rfl (by kernel_rfl) (by kernel_rfl) (by kernel_rfl) (fun _ _ _ h => nomatch h.1) (Or.inl ⟨by rfl, ?_⟩) hS ?_
    rotate_left
    · intro w hSw; go_simp; (try with_reducible rfl)
    try simp only [Act.put, List.setIfInBounds_toArray, List.set_cons_zero, List.set_cons_succ]
    refine held_take (i := 1) (v := ?_) rfl (by kernel_rfl) (by kernel_rfl) (by kernel_rfl) (fun _ _ _ h => nomatch h.1) (Or.inl ⟨by rfl, ?_⟩) hS ?_
    rotate_left
    · intro w hSw; go_simp; (try with_reducible rfl)
    try simp only [Act.put, List.setIfInBounds_toArray, List.set_cons_zero, List.set_cons_succ]
    refine held_take (i := 2) (v := ?_) rfl (by kernel_rfl) (by kernel_rfl) (by kernel_rfl) (fun _ _ _ h => nomatch h.1) (Or.inl ⟨by rfl, ?_⟩) hS ?_
    rotate_left
    · intro w hSw; go_simp; (try with_reducible rfl)
    try simp only [Act.put, List.setIfInBounds_toArray, List.set_cons_zero, List.set_cons_succ]
    refine held_take (i := 3) (v := ?_) rfl (by kernel_rfl) (by kernel_rfl) (by kernel_rfl) (fun _ _ _ h => nomatch h.1) (Or.inl ⟨by rfl, ?_⟩) hS ?_
    rotate_left
    · intro w hSw; go_simp; (try with_reducible rfl)
    try simp only [Act.put, List.setIfInBounds_toArray, List.set_cons_zero, List.set_cons_succ]
    refine held_take (i := 4) (v := ?_) rfl (by kernel_rfl) (by kernel_rfl) (by kernel_rfl) (fun _ _ _ h => nomatch h.1) (Or.inl ⟨by rfl, ?_⟩) hS ?_
    rotate_left
    · intro w hSw; go_simp; (try with_reducible rfl)
    try simp only [Act.put, List.setIfInBounds_toArray, List.set_cons_zero, List.set_cons_succ]
    refine held_take (i := 5) (v := ?_) rfl (by kernel_rfl) (by kernel_rfl) (by kernel_rfl) (fun _ _ _ h => nomatch h.1) (Or.inl ⟨by rfl, ?_⟩) hS ?_
    rotate_left
    · intro w hSw; go_simp; (try with_reducible rfl)
    try simp only [Act.put, List.setIfInBounds_toArray, List.set_cons_zero, List.set_cons_succ]
    refine wpAnyH_ready (rs := [6, 7]) (by kernel_rfl) (by simp) ?_
    refine held_cons rfl (fun K hK => ?_) ?_
    ·
      go_simp
      go_at_call 92
      refine (cL _ hS).mono ?_
      rintro e v1 ⟨rfl, hb1⟩
      refine hK.out _ _ (grown_below hS hb1 hS.size) (fun hS' => ?_)
      clear hK K hS hb1; have hS := hS'; clear hS'; clear v0
      try simp only [Act.put, List.setIfInBounds_toArray, List.set_cons_zero, List.set_cons_succ]
      refine wpAnyH_ready (rs := [7]) (by kernel_rfl) (by simp) ?_
      refine held_cons rfl (fun K hK => ?_) AllReadyH.nil
      go_simp
      refine hK.out _ _ (hS.alloc hS.size _) (fun hS' => ?_)
      have bn := Blk.new v1 27 zeroF
      rw [FC_zero] at bn
      have hg : w0.heap.size ≤ v1.heap.size := hS.size
      clear hK K hS; have hS := hS'; clear hS'
      generalize v1.alloc (.cells #[.int .u16 0, .int .u16 0, .int .u16 0, .int .u16 0, .int .u16 0, .int .u16 0, .int .u16 0, .int .u16 0, .int .u16 0, .int .u16 0, .int .u16 0, .int .u16 0] 27) = v2 at hS bn ⊢
      generalize v1.heap.size = g at hg bn ⊢
      clear v1
      try simp only [Act.put, List.setIfInBounds_toArray, List.set_cons_zero, List.set_cons_succ]
      refine wpAnyH_ready (rs := [8]) (by kernel_rfl) (by simp) ?_
      refine held_cons rfl (fun K hK => ?_) AllReadyH.nil
      rw [if_pos (by rfl)]
      refine wp_store_fr 27 _ _ rfl g rfl bn rfl (by kernel_rfl) ?_
      refine hK.out _ _ (below_setRow hS hg _) (fun hS' => ?_)
      replace bn := bn.setRow (lessF i2 k)
      clear hK K
      try simp only [Act.put, List.setIfInBounds_toArray, List.set_cons_zero, List.set_cons_succ]
      refine wpAnyH_done (by kernel_rfl) ⟨rfl, g, ?_, bn, hS', hg⟩ _
      exact rfl
    refine held_cons rfl (fun K hK => ?_) AllReadyH.nil
    go_simp
    refine hK.out _ _ (hS.alloc hS.size _) (fun hS' => ?_)
    have bn := Blk.new v0 27 zeroF
    rw [FC_zero] at bn
    have hg : w0.heap.size ≤ v0.heap.size := hS.size
    clear hK K hS; have hS := hS'; clear hS'
    generalize v0.alloc (.cells #[.int .u16 0, .int .u16 0, .int .u16 0, .int .u16 0, .int .u16 0, .int .u16 0, .int .u16 0, .int .u16 0, .int .u16 0, .int .u16 0, .int .u16 0, .int .u16 0] 27) = v1 at hS bn ⊢
    generalize v0.heap.size = g at hg bn ⊢
    clear v0
    try simp only [Act.put, List.setIfInBounds_toArray, List.set_cons_zero, List.set_cons_succ]
    refine wpAnyH_ready (rs := [6]) (by kernel_rfl) (by simp) ?_
    refine held_cons rfl (fun K hK => ?_) AllReadyH.nil
    go_simp
    go_at_call 92
    refine (cL _ hS).mono ?_
    rintro e v2 ⟨rfl, hb1⟩
    refine hK.out _ _ (grown_below hS hb1 hS.size) (fun hS' => ?_)
    replace bn := bn.below hb1 bn.lt
    clear hK K hS hb1; have hS := hS'; clear hS'; clear v1
    try simp only [Act.put, List.setIfInBounds_toArray, List.set_cons_zero, List.set_cons_succ]
    refine wpAnyH_ready (rs := [8]) (by kernel_rfl) (by simp) ?_
    refine held_cons rfl (fun K hK => ?_) AllReadyH.nil
    rw [if_pos (by rfl)]
    refine wp_store_fr 27 _ _ rfl g rfl bn rfl (by kernel_rfl) ?_
    refine hK.out _ _ (below_setRow hS hg _) (fun hS' => ?_)
    replace bn := bn.setRow (lessF i2 k)
    clear hK K
    try simp only [Act.put, List.setIfInBounds_toArray, List.set_cons_zero, List.set_cons_succ]
    refine wpAnyH_done (by kernel_rfl) ⟨rfl, g, ?_, bn, hS', hg⟩ _
    exact rfl
  rintro g w1 ⟨bn, hb, hg⟩
  replace r := r.below hb r.lt
  replace hA := hA.below hb lA
  replace hB := hB.below hb lB
  replace lA := Nat.lt_of_lt_of_le lA hb.size
  replace lB := Nat.lt_of_lt_of_le lB hb.size
  replace h0 := grown_below h0 hb h0.size
  have rn := bn.range
  have ln := bn.lt
  clear hb cL bn
  have cI := fun w' (hb : Below w1.heap.size w1 w') => specJoinAt_any b o g 0 i (lessF i2 k) hi (lessF_lt hi2) w' (range_below hA.ink hb lA) (Nat.lt_of_lt_of_le lA hb.size) (range_below rn hb ln) (Nat.lt_of_lt_of_le ln hb.size)
  have cK := fun w' (hb : Below w1.heap.size w1 w') => specJoinAt_any b (o + 12) b2 (o2 + 12) k k2 hk hk2 w' (range_below hA.cov hb lA) (Nat.lt_of_lt_of_le lA hb.size) (range_below hB.cov hb lB) (Nat.lt_of_lt_of_le lB hb.size)
  rw [show joinF i (lessF i2 k) = ovI i k i2 from rfl] at cI
  go_wp2_with fail
  refine wp_region_tail 12 (by kernel_rfl) (by kernel_rfl) ?_
  simp only [List.take_succ_cons, List.take_zero, List.drop_succ_cons, List.drop_zero]
  repeat (first | (refine wpQuiet_build2 (u := .agg (FC (ovI i k i2))) (v := .agg (FC (joinF k k2))) rfl 29 0 1 _ _ rfl rfl rfl hbl ?_) | quiet_step (first | with_reducible exact Calls.regrown_of (cI _ (below_regrown _ _ _)) | with_reducible exact Calls.regrown_of (cK _ (below_regrown _ _ _))))
  refine wpQuiet_nil ?_
  intro w3 hb3
  replace r := r.below hb3 r.lt
  replace h0 := grown_below h0 hb3 h0.size
  clear cI cK hb3
  go_wp2_with (refine wpList_store_cel rfl 29 _ _ rfl r rfl rfl (by kernel_rfl) ?_; intro r')
  exact bodyPost_ret_row (p := 4) (ty := 29) rfl rfl r' Try.underlying29 rfl (by kernel_rfl) rfl ⟨rfl, below_setRow h0 (Nat.le_refl _) _⟩
end Go.Proofs.Ytpmlepgnokbpaaa
