import Derived.Test.YtajlkleoincoeacDoorM2
import Derived.Test.YtajlkleoincoeacDoorM8
import Derived.OrdersHeld
import Derived.Deep.RegionHeld
import Derived.Test.YtajlkleoincoeacDoorM5
/- A cell, read in a region that draws its order. -/
namespace Go.Proofs.YtajlkleoincoeacDoor
open Go.RowKit Go.Sort
theorem cell_q {w : World} {b o : Nat} {v : Value} (h : w.cell? ⟨b, o, none⟩ = some v) (p : Regrown) : (grow (redrawn w p.d) p.os).cell? ⟨b, o, none⟩ = some v :=
  (World.cell?_of_block (w := w) (a := ⟨b, o, none⟩) ((below_regrown w p.d p.os).block _ (World.block_lt_of_cell? w _ h))).trans h
theorem to_below {P : Program} {f : FuncId} {args : Array Value} {w : World} {E : Ending} (h : Calls P f args w fun e w' => e = E ∧ w = w') : Calls P f args w fun e w' => e = E ∧ Below w.heap.size w w' :=
  h.mono fun _ _ ⟨h1, h2⟩ => ⟨h1, h2 ▸ Below.refl _ _⟩
end Go.Proofs.YtajlkleoincoeacDoor

/- impl: Key.between. -/
namespace Go.Proofs.YtajlkleoincoeacDoor
set_option maxRecDepth 100000
open Go.RowKit
set_option linter.unusedVariables false
set_option linter.unusedSimpArgs false
set_option maxHeartbeats 2000000 in
theorem between_any (a x y b u z s t : Int) (w : World) (hx : -24 ≤ x ∧ x ≤ 24) (hy : -24 ≤ y ∧ y ≤ 24) (hu : -24 ≤ u ∧ u ≤ 24) (hz : -24 ≤ z ∧ z ≤ 24) (hs : 0 ≤ s ∧ s ≤ 1000) :
    Calls Tryd.prog 125 #[.agg (KC (a, x, y)), .agg (KC (b, u, z)), .int .i64 s, .int .i16 t] w fun r w' => r = .returned (.agg (KC (t, betI x u s, betI y z s))) ∧ Below w.heap.size w w' := by
  have bX := betI_bounds (lo := -24) (hi := 24) hx hu hs
  have bY := betI_bounds (lo := -24) (hi := 24) hy hz hs
  have cX := fun w => to_below (numberBetween_any x u s w ⟨by omega, by omega⟩ ⟨by omega, by omega⟩ hs)
  have cY := fun w => to_below (numberBetween_any y z s w ⟨by omega, by omega⟩ ⟨by omega, by omega⟩ hs)
  generalize betI x u s = X at *
  generalize betI y z s = Y at *
  have kX : IntKind.i8.wrap X = X := IntWalk.i8_in _ (by omega)
  have kY : IntKind.i8.wrap Y = Y := IntWalk.i8_in _ (by omega)
  have kx : IntKind.i64.wrap x = x := IntWalk.i64_in _ (by omega)
  have ky : IntKind.i64.wrap y = y := IntWalk.i64_in _ (by omega)
  have ku : IntKind.i64.wrap u = u := IntWalk.i64_in _ (by omega)
  have kz : IntKind.i64.wrap z = z := IntWalk.i64_in _ (by omega)
  have r4 := ((Row.new w 82 (KC (a, x, y))).alloc (.cells (KC (b, u, z)) 82)).alloc (.cells (KC zeroK) 82)
  have r5 := (Row.new (w.alloc (.cells (KC (a, x, y)) 82)) 82 (KC (b, u, z))).alloc (.cells (KC zeroK) 82)
  have r6 := Row.new ((w.alloc (.cells (KC (a, x, y)) 82)).alloc (.cells (KC (b, u, z)) 82)) 82 (KC zeroK)
  have hb := (((Below.refl w.heap.size w).alloc (Nat.le_refl _) (.cells (KC (a, x, y)) 82)).alloc (by simp) (.cells (KC (b, u, z)) 82)).alloc (by simp; omega) (.cells (KC zeroK) 82)
  rw [World.size_alloc] at r5
  rw [World.size_alloc, World.size_alloc] at r6
  clear bX bY hx hy hu hz hs
  go_enter Tryd.func125, Tryd.ntmps125
  go_wp2
  change Code.wp _ _ _ _ (((w.alloc (.cells (KC (a, x, y)) 82)).alloc (.cells (KC (b, u, z)) 82)).alloc (.cells (KC zeroK) 82))
  generalize (((w.alloc (.cells (KC (a, x, y)) 82)).alloc (.cells (KC (b, u, z)) 82)).alloc (.cells (KC zeroK) 82)) = w3 at *
  have q1 := cell_q (w := w3) (v := .int .i8 x) (r4.cell 1)
  have q2 := cell_q (w := w3) (v := .int .i8 y) (r4.cell 2)
  have q3 := cell_q (w := w3) (v := .int .i8 u) (r5.cell 1)
  have q4 := cell_q (w := w3) (v := .int .i8 z) (r5.cell 2)
  refine wp_region_tail 20 (by kernel_rfl) (by kernel_rfl) ?_
  simp only [List.take_succ_cons, List.take_zero, List.drop_succ_cons, List.drop_zero]
  repeat (quiet_step (first | with_reducible exact Calls.regrown_of (cX _) | with_reducible exact Calls.regrown_of (cY _)))
  refine wpQuiet_nil ?_
  intro w4 hb4
  replace hb := grown_below hb hb4 hb.size
  replace r6 := r6.below hb4 r6.lt
  go_wp2_with (refine wpList_store_row rfl 82 _ _ rfl _ rfl r6 rfl rfl (by intro v hv; simp at hv; rcases hv with rfl | rfl | rfl <;> rfl) (by kernel_rfl) ?_)
  have r7 := r6.setRow (KC (t, X, Y))
  refine bodyPost_ret_row (p := 8) (ty := 82) (cs := KC (t, X, Y)) rfl rfl r7 Tryd.underlying82 rfl (by kernel_rfl) rfl ⟨rfl, ?_⟩
  exact below_setRow hb (by omega) _
end Go.Proofs.YtajlkleoincoeacDoor

/- A region that draws its order and in which a block is laid beside calls: walked with S := 'nothing that was there has turned' (the library's wpAnyH), the loads of whole frames first. And a cut behind a region whose ways end alike but for the number of a block. No function of the program is named. -/
namespace Go.Proofs.YtajlkleoincoeacDoor
open Go.RowKit
section
variable {P : Program} {ops : Array Oper} {Q : Exit → Act → World → Prop} {md : Region.Mode} {S : World → Prop}
theorem yieldsIf_load_fr {o : Oper} {a : Act} (hgd : o.guard = none) (ty e : TypeId) (x : Operand) (ho : o.op = .load ty x) (g : Nat) (hx : a.eval x = .pointer (some ⟨g, 0, none⟩)) {t : TypeId} {f : Nat → Nat} (hb : ∀ w, S w → Blk w g t f)
    (hu : P.underlying ty = some (.array 12 e)) (hi : (P.info? ty).map (·.size) = some 12) : YieldsIf P ops S o (.agg (FC f)) a := by
  refine .inl ⟨by simp [Region.wanted, hgd], fun w hS => ?_⟩
  unfold execOp
  simp only [ho, hx, Instr.loadAt, Instr.sureAddr, Sem.run_bind, Sem.run_pure, Result.andThen_ok, run_loadVar_row _ g t ty (FC f) (0, 0) _ (hb w hS) hu rfl hi]
theorem yieldsIf_load_row {o : Oper} {a : Act} (hgd : o.guard = none) (ty : TypeId) (x : Operand) (ho : o.op = .load ty x) (g : Nat) (hx : a.eval x = .pointer (some ⟨g, 0, none⟩)) {t : TypeId} {cs : Array Value} {d : TypeDesc} (hb : ∀ w, S w → Row w g t cs)
    (hu : P.underlying ty = some d) (hd : (match d with | .struct _ | .array _ _ => true | _ => false) = true) (hi : (P.info? ty).map (·.size) = some cs.size) : YieldsIf P ops S o (.agg cs) a := by
  refine .inl ⟨by simp [Region.wanted, hgd], fun w hS => ?_⟩
  unfold execOp
  simp only [ho, hx, Instr.loadAt, Instr.sureAddr, Sem.run_bind, Sem.run_pure, Result.andThen_ok, run_loadVar_row _ g t ty cs (0, 0) d (hb w hS) hu hd hi]
/-- A region whose ways all end normally, in one state but for the number g of a block, at worlds of which R is known. -/
theorem wp_cut_blk {c : Code} {a : Act} {w : World} (F : Nat → Act) (R : Nat → World → Prop) (h : c.wp P (fun e a' w' => e = .normal ∧ ∃ g, a' = F g ∧ R g w') a w) (k : ∀ g w', R g w' → Q .normal (F g) w') : c.wp P Q a w :=
  Code.wp_mono (fun e a' w' ⟨he, g, ha, hR⟩ => by subst he; subst ha; exact k g w' hR) h
/-- The same for a value that a call hands back. -/
theorem wp_cut_val {c : Code} {a : Act} {w : World} (F : Value → Act) (R : Value → World → Prop) (h : c.wp P (fun e a' w' => e = .normal ∧ ∃ v, a' = F v ∧ R v w') a w) (k : ∀ v w', R v w' → Q .normal (F v) w') : c.wp P Q a w :=
  Code.wp_mono (fun e a' w' ⟨he, g, ha, hR⟩ => by subst he; subst ha; exact k g w' hR) h
theorem wp_store_fr {o : Oper} {a : Act} {w : World} {K : Act → World → Prop} (ty : TypeId) (x y : Operand) (ho : o.op = .store ty x y) (g : Nat) (hx : a.eval x = .pointer (some ⟨g, 0, none⟩)) {t : TypeId} {f0 f : Nat → Nat} (hb : Blk w g t f0)
    (hy : a.eval y = .agg (FC f)) (hi : (P.info? ty).map (·.size) = some 12) (h : K (a.put o.dst undef) (w.setRow g (FC f))) : o.wp P a w K Q := by
  unfold Oper.wp execOp
  simp only [ho, hx, hy, Instr.storeAt, Instr.sureAddr, Sem.run_bind, Sem.run_pure, Result.andThen_ok, run_storeVar_fr w g t ty f0 f hb hi]
  exact h
/-- The library's moves with the operation read off the written list, so that it stands written out. -/
theorem get_of_drop {l : List Oper} {i : Nat} {o : Oper} {rest : List Oper} (h : l.drop i = o :: rest) : l.toArray[i]? = some o := by
  have : (l.drop i)[0]? = some o := by rw [h]; rfl
  simpa [List.getElem?_drop] using this
theorem held_take {l : List Oper} {i : Nat} {o : Oper} {rest : List Oper} {v : Value} {fuel : Nat} {listed : Array Bool} {a : Act} {w : World} (hi : l.drop i = o :: rest)
    (hs : Region.noSelect l.toArray = true) (hf : Region.free md l.toArray listed i = true) (hr : (Region.ready md l.toArray listed).contains i = true)
    (hQ : ∀ c a w, Q (.panic c) (a.put o.dst v) w → Q (.panic c) a w) (hy : YieldsIf P l.toArray S o v a) (hS : S w)
    (h : wpAnyH P md l.toArray Q S fuel (listed.setIfInBounds i true) (a.put o.dst v) w) : wpAnyH P md l.toArray Q S (fuel + 1) listed a w :=
  wpAnyH_take (get_of_drop hi) hs hf hr hQ hy hS h
theorem held_cons {l : List Oper} {fuel : Nat} {listed : Array Bool} {a : Act} {w : World} {i : Nat} {o : Oper} {rest : List Oper} {rs : List Nat} (hi : l.drop i = o :: rest)
    (h : ∀ K' : Act → World → Prop, Shut (∀ a w, S w → (S w → wpAnyH P md l.toArray Q S fuel (listed.setIfInBounds i true) a w) → K' a w) → if Region.wanted o (yielded l.toArray a.tmps) = true then Oper.wp P o a w K' Q else K' (a.put o.dst undef) w)
    (hs : AllReadyH P md l.toArray Q S fuel listed a w rs) : AllReadyH P md l.toArray Q S fuel listed a w (i :: rs) :=
  AllReadyH.cons (get_of_drop hi) h hs
end
theorem below_drew_refl (w : World) : Below w.heap.size w w.drew := ⟨rfl, rfl, rfl, Nat.le_refl _, fun _ _ => rfl⟩
end Go.Proofs.YtajlkleoincoeacDoor

/- A cut behind a region whose ways end alike but for the numbers of two blocks; loads of elements and stores of rows in such a region. No function of the program is named. -/
namespace Go.Proofs.YtajlkleoincoeacDoor
open Go.RowKit
section
variable {P : Program} {ops : Array Oper} {Q : Exit → Act → World → Prop} {S : World → Prop}
theorem wp_cut_two {c : Code} {a : Act} {w : World} (F : Nat → Nat → Act) (R : Nat → Nat → World → Prop) (h : c.wp P (fun e a' w' => e = .normal ∧ ∃ g h, a' = F g h ∧ R g h w') a w) (k : ∀ g h w', R g h w' → Q .normal (F g h) w') : c.wp P Q a w :=
  Code.wp_mono (fun e a' w' ⟨he, g, h, ha, hR⟩ => by subst he; subst ha; exact k g h w' hR) h
theorem yieldsIf_load_el {α : Type} {E : Enc α} {o : Oper} {a : Act} (hgd : o.guard = none) (ty : TypeId) (x : Operand) (ho : o.op = .load ty x) (b off : Nat) (hx : a.eval x = .pointer (some ⟨b, off, none⟩)) (y : α) (cs : Array Value) (hcs : cs.toList = E.c y) (hb : ∀ w, S w → w.rangeAt b off (E.c y)) {d : TypeDesc}
    (hu : P.underlying ty = some d) (hd : d.isRow = true) (hi : (P.info? ty).map (·.size) = some E.n) : YieldsIf P ops S o (.agg cs) a := by
  refine .inl ⟨by simp [Region.wanted, hgd], fun w hS => ?_⟩
  have hl : cs = (E.c y).toArray := by rw [← hcs]
  have hz : (P.info? ty).map (·.size) = some (E.c y).length := by rw [E.len]; exact hi
  unfold execOp
  simp only [ho, hx, Instr.loadAt, Instr.sureAddr, Sem.run_bind, Sem.run_pure, Result.andThen_ok, run_loadVar_mid _ b off ty (E.c y) d (hb w hS) hu hd hz, hl]
theorem wp_store_rowH {o : Oper} {a : Act} {w : World} {K : Act → World → Prop} (ty : TypeId) (x y : Operand) (ho : o.op = .store ty x y) (g : Nat) (hx : a.eval x = .pointer (some ⟨g, 0, none⟩)) {t : TypeId} {cs0 cs : Array Value} (hb : Row w g t cs0)
    (hy : a.eval y = .agg cs) (hs : cs.size = cs0.size) (h1 : ∀ v ∈ cs.toList, v.oneCell' = true) (hi : (P.info? ty).map (·.size) = some cs.size) (h : K (a.put o.dst undef) (w.setRow g cs)) : o.wp P a w K Q := by
  unfold Oper.wp execOp
  simp only [ho, hx, hy, Instr.storeAt, Instr.sureAddr, Sem.run_bind, Sem.run_pure, Result.andThen_ok, run_storeVar_row w g t ty cs0 cs hb hs h1 hi]
  exact h
end
end Go.Proofs.YtajlkleoincoeacDoor
