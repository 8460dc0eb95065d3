import Derived.Test.YtpmlepgnokbpaaaM19
/- impl: PanScene. -/
namespace Go.Proofs.Ytpmlepgnokbpaaa
set_option maxRecDepth 100000
open Go.RowKit
set_option linter.unusedVariables false
set_option linter.unusedSimpArgs false
theorem field_ink (i k : Nat → Nat) (w : World) : (Instr.field 29 (.agg (CC i k)) 0).run Try.prog w = .ok (.agg (FC i)) w := by kernel_rfl
open Go.Sort in
theorem wpQuiet_field {P : Program} {ops : Array Oper} {rest : List Oper} {o : Oper} {a : Act} {C : World → Prop} {Q : Act → Prop} (hgd : o.guard = none) (T : TypeId) (x : Operand) (k : Nat) (ho : o.op = .field T x k) {u r : Value} (hx : a.eval x = u)
    (hr : ∀ w, (Instr.field T u k).run P w = .ok r w) (h : wpQuiet P ops C Q rest (a.put o.dst r)) : wpQuiet P ops C Q (o :: rest) a := by
  unfold wpQuiet
  rw [if_pos (by simp [Region.wanted, hgd])]
  refine ⟨_, ?_, h⟩
  intro w' _
  unfold Oper.quietAt execOp
  simp only [ho, hx, Sem.run_bind, hr, Result.andThen_ok, Sem.run_pure]
  exact ⟨rfl, rfl⟩
set_option maxHeartbeats 1000000 in
theorem panFn_any (v : Value) (L : List Ly) (x y e s : Int) (k : Nat) (gs g1 g2 : Nat) (w : World) (hL : ltLy L) (ho : okS L = true) (hk : k ≤ 40) (hx : -100 ≤ x ∧ x ≤ 100) (hy : -100 ≤ y ∧ y ≤ 100) (he : -100 ≤ e ∧ e ≤ 100) (hs : -100 ≤ s ∧ s ≤ 100) (hc : camB (panX x e k) (panX y s k) = true)
    (h : SlAt eLy w w.heap.size v L) (hv : w.cell? ⟨gs, 0, none⟩ = some v) (r1 : Row w g1 108 (CM x y)) (r2 : Row w g2 108 (CM e s)) :
    Calls Try.prog 83 #[.int .i64 k, .pointer (some ⟨gs, 0, none⟩), .pointer (some ⟨g1, 0, none⟩), .pointer (some ⟨g2, 0, none⟩)] w fun e' w' => e' = .returned (.agg (FC (flatI L (panX x e k) (panX y s k) L.length).1)) ∧ Below w.heap.size w w' := by
  obtain ⟨cx, cy⟩ := camB_of hc
  have cB := fun w' => behind_any x y e s k hk hx hy he hs w'
  have cF := fun w' (hb : Below w.heap.size w w') => implFlat_any v L (panX x e k) (panX y s k) w' hL ho cx cy (h.later hb)
  have hf := field_ink (flatI L (panX x e k) (panX y s k) L.length).1 (flatI L (panX x e k) (panX y s k) L.length).2
  generalize flatI L (panX x e k) (panX y s k) L.length = fl at *
  have lgs := World.block_lt_of_cell? w _ hv
  obtain ⟨A, c, rfl⟩ := h.form
  have b := Blk.new w 27 zeroF
  have h0 := (Below.refl w.heap.size w).alloc (Nat.le_refl _) (.cells (FC zeroF) 27)
  replace hv := (World.cell?_of_block (w := w) (h0.block gs lgs)).trans hv
  replace r1 := r1.below h0 r1.lt
  replace r2 := r2.below h0 r2.lt
  have c4 : _ = some (Value.int .i64 x) := r1.cell 0
  have c5 : _ = some (Value.int .i64 y) := r1.cell 1
  have c6 : _ = some (Value.int .i64 e) := r2.cell 0
  have c7 : _ = some (Value.int .i64 s) := r2.cell 1
  rw [FC_zero] at b h0 hv c4 c5 c6 c7
  clear r1 r2 h cx cy hc hx hy he hs hk ho
  unfold CM at cB cF
  go_enter Try.func83, Try.ntmps83
  go_wp2_with fail
  generalize (w.alloc _) = w1 at *
  have d3 := fun dd os => cell_regrown hv dd os
  have d4 := fun dd os => cell_regrown c4 dd os
  have d5 := fun dd os => cell_regrown c5 dd os
  have d6 := fun dd os => cell_regrown c6 dd os
  have d7 := fun dd os => cell_regrown c7 dd os
  refine wp_region_tail 7 (by kernel_rfl) (by kernel_rfl) ?_
  simp only [List.take_succ_cons, List.take_zero, List.drop_succ_cons, List.drop_zero]
  repeat (first | (refine wpQuiet_field (u := .agg (CC fl.1 fl.2)) rfl 29 _ 0 rfl rfl hf ?_) | quiet_step (first | with_reducible exact Calls.regrown_of (cB _) | with_reducible exact Calls.regrown_of (cF _ (grown_below h0 (below_regrown _ _ _) h0.size))))
  refine wpQuiet_nil ?_
  intro w3 hb3
  replace b := b.below hb3 b.lt
  replace h0 := grown_below h0 hb3 h0.size
  go_wp2_with (refine wpList_store_fr rfl 27 _ _ rfl _ rfl (by with_reducible exact b) rfl (by kernel_rfl) ?_)
  exact bodyPost_ret_fr (p := 5) (ty := 27) (e := 22) rfl rfl (b.setRow _) Try.underlying27 (by kernel_rfl) rfl ⟨rfl, below_setRow h0 (Nat.le_refl _) _⟩
theorem panC_zero {L : List Ly} {x y e s n : Int} (h : panC L x y e s n = 0) : okS L = true ∧ panB x y e s n = true := by
  unfold panC at h
  cases h1 : okS L <;> cases h2 : panB x y e s n <;> simp_all
set_option maxHeartbeats 1000000 in
theorem implPan_any (v : Value) (L : List Ly) (x y e s n : Int) (w : World) (hL : ltLy L) (hn : (Lit.int .i64 n).wf = true) (h : SlAt eLy w w.heap.size v L) :
    Calls Try.prog 43 #[v, .int .i64 x, .int .i64 y, .int .i64 e, .int .i64 s, .int .i64 n] w (GivesL eFr 27 (ifL (panC L x y e s n) (panL L x y e s n)) (panC L x y e s n) w) := by
  have cP := fun w' => isPan_any x y e s n hn w'
  have cH := fun b w' (hb : Below w.heap.size w w') => checkScene_any v L b w' hL (h.later hb)
  have e0 : chC L (panB x y e s n) = panC L x y e s n := rfl
  have hin := h
  obtain ⟨A, c, rfl⟩ := h.form
  have q0 := ((Row.new w 36 #[.slice A L.length c]).alloc (.cells (CM x y) 108)).alloc (.cells (CM e s) 108)
  have q1 := (Row.new (w.alloc (.cells #[.slice A L.length c] 36)) 108 (CM x y)).alloc (.cells (CM e s) 108)
  have q2 := Row.new ((w.alloc (.cells #[.slice A L.length c] 36)).alloc (.cells (CM x y) 108)) 108 (CM e s)
  rw [World.size_alloc] at q1
  rw [World.size_alloc, World.size_alloc] at q2
  have h0 := (((Below.refl w.heap.size w).alloc (Nat.le_refl _) (.cells #[.slice A L.length c] 36)).alloc (by simp) (.cells (CM x y) 108)).alloc (by simp; omega) (.cells (CM e s) 108)
  have cQ : ∀ w1, Below w.heap.size w w1 → w1.cell? ⟨w.heap.size, 0, none⟩ = some (.slice A L.length c) → Row w1 (w.heap.size + 1) 108 (CM x y) → Row w1 (w.heap.size + 1 + 1) 108 (CM e s) → panC L x y e s n = 0 → ∀ i : Nat, (i : Int) < n → ∀ w2, Below w1.heap.size w1 w2 →
      Calls Try.prog 83 #[.int .i64 i, .pointer (some ⟨w.heap.size, 0, none⟩), .pointer (some ⟨w.heap.size + 1, 0, none⟩), .pointer (some ⟨w.heap.size + 1 + 1, 0, none⟩)] w2 fun e' w3 => e' = .returned (.agg (FC (flatI L (panX x e i) (panX y s i) L.length).1)) ∧ Below w2.heap.size w2 w3 := by
    intro w1 hb hc hr1 hr2 hz i hi w2 hb2
    obtain ⟨ho, hp⟩ := panC_zero hz
    have ha := panB_all hp i hi
    unfold panB at hp
    simp only [Bool.and_eq_true] at hp
    have hxy := camB_of hp.1.1.1
    have hes := camB_of hp.1.1.2
    have hn1 := inB_iff.1 hp.1.2
    exact panFn_any _ L x y e s i _ _ _ w2 hL ho (by omega) hxy.1 hxy.2 hes.1 hes.2 ha (hin.later (grown_below hb hb2 hb.size)) ((World.cell?_of_block (w := w1) (hb2.block _ (World.block_lt_of_cell? w1 _ hc))).trans hc) (hr1.below hb2 hr1.lt) (hr2.below hb2 hr2.lt)
  have hnn : panC L x y e s n = 0 → 0 ≤ n ∧ n ≤ 40 := fun hz => by
    obtain ⟨_, hp⟩ := panC_zero hz
    unfold panB at hp
    simp only [Bool.and_eq_true] at hp
    exact inB_iff.1 hp.1.2
  have CQ := Lib.hid cQ
  have HN := Lib.hid hnn
  clear h hin hn hL cQ hnn
  have c3 : _ = some (Value.slice A L.length c) := q0.cell 0
  have c4 : _ = some (Value.int .i64 x) := q1.cell 0
  have c5 : _ = some (Value.int .i64 y) := q1.cell 1
  have c6 : _ = some (Value.int .i64 e) := q2.cell 0
  have c7 : _ = some (Value.int .i64 s) := q2.cell 1
  have hbk := h0
  unfold CM at cP c3 c4 c5 c6 c7 h0
  by_cases hz : panC L x y e s n = 0
  · obtain ⟨n1, n2⟩ := HN.out hz
    have hres : ifL (panC L x y e s n) (panL L x y e s n) = tab (fun k => (flatI L (panX x e k) (panX y s k) L.length).1) n.toNat := by rw [hz, ifL0]; rfl
    rw [hres, hz]
    have HZ := Lib.hid hz
    rw [hz] at e0
    clear hres hz HN
    go_enter Try.func43, Try.ntmps43
    go_wp2_with fail
    have d3 := fun dd os => cell_regrown c3 dd os
    have d4 := fun dd os => cell_regrown c4 dd os
    have d5 := fun dd os => cell_regrown c5 dd os
    have d6 := fun dd os => cell_regrown c6 dd os
    have d7 := fun dd os => cell_regrown c7 dd os
    refine wp_region_calm (by kernel_rfl) (by kernel_rfl) ?_
    repeat (quiet_step (first | with_reducible exact Calls.regrown_of (cP _) | with_reducible exact Calls.regrown_of (cH _ _ (grown_below h0 (below_regrown _ _ _) h0.size))))
    refine wpQuiet_nil ?_
    intro w3 hb3
    have hb := grown_below hbk hb3 hbk.size
    replace q0 := q0.below hb3 q0.lt
    replace q1 := q1.below hb3 q1.lt
    replace q2 := q2.below hb3 q2.lt
    have BD := Lib.hid (CQ.out w3 hb (q0.cell 0) q1 q2 HZ.out)
    clear c3 c4 c5 c6 c7 d3 d4 d5 d6 d7 hb3 h0 hbk cP cH e0 CQ HZ q0 q1 q2
    go_wp2_with fail
    refine (listByC3L_fr n 83 _ _ _ (fun k => (flatI L (panX x e k) (panX y s k) L.length).1) w3 (by omega) (by omega) (fun _ _ => by kernel_rfl) (fun i hi w2 hb2 => BD.out i hi w2 hb2)).mono ?_
    rintro e' w4 ⟨u, rfl, hown, hb4⟩
    go_wp2
    go_ret2
    exact ⟨u, rfl, hown.mono hb.size, grown_below hb hb4 hb.size⟩
  · rw [ifL1 _ hz]
    have d : (panC L x y e s n != 0) = true := by simp [hz]
    clear CQ HN hz
    generalize panC L x y e s n = cc at *
    go_enter Try.func43, Try.ntmps43
    go_wp2_with fail
    have d3 := fun dd os => cell_regrown c3 dd os
    have d4 := fun dd os => cell_regrown c4 dd os
    have d5 := fun dd os => cell_regrown c5 dd os
    have d6 := fun dd os => cell_regrown c6 dd os
    have d7 := fun dd os => cell_regrown c7 dd os
    refine wp_region_calm (by kernel_rfl) (by kernel_rfl) ?_
    repeat (quiet_step (first | with_reducible exact Calls.regrown_of (cP _) | with_reducible exact Calls.regrown_of (cH _ _ (grown_below h0 (below_regrown _ _ _) h0.size))))
    refine wpQuiet_nil ?_
    intro w3 hb3
    have hb := grown_below hbk hb3 hbk.size
    clear c3 c4 c5 c6 c7 d3 d4 d5 d6 d7 hb3 h0 hbk cP cH q0 q1 q2
    go_wp2
    go_ret2
    exact ⟨_, rfl, OwnL.nil_ _ _ _, hb⟩
end Go.Proofs.Ytpmlepgnokbpaaa
