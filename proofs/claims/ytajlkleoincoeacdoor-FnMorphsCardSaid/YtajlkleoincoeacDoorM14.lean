import Derived.Test.YtajlkleoincoeacDoorRows
import Derived.Test.YtajlkleoincoeacDoorM6
import Derived.Test.YtajlkleoincoeacDoorM13
import Derived.Test.YtajlkleoincoeacDoorM4
import Derived.Test.YtajlkleoincoeacDoorM3
import Derived.Test.YtajlkleoincoeacDoorM12
import Derived.Test.YtajlkleoincoeacDoorM9
/- impl: ValidBook, slices.Equal, SameBook, listBy, Book.jump, sumOf, JumpsOf, AllJumps, LoopJumps. -/
namespace Go.Proofs.YtajlkleoincoeacDoor
set_option maxRecDepth 100000
open Go.RowKit
set_option linter.unusedVariables false
set_option linter.unusedSimpArgs false
set_option maxHeartbeats 400000 in
theorem implValidBook_any (v : Value) (L : List (Nat → Nat)) (w : World) (hL : ltL L) (h : SlAt eFr w w.heap.size v L) :
    Calls Tryd.prog 79 #[v] w fun e w' => e = .returned (.bool (okB L)) ∧ Below w.heap.size w w' := by
  obtain ⟨A, c, rfl, h1, h2, hA⟩ := h
  unfold maxLen at h2
  by_cases h40 : L.length ≤ 40
  · go_enter Tryd.func79, Tryd.ntmps79
    go_wp2
    go_loopw [10] (fun i wr => ∃ k : Nat, k ≤ L.length ∧ i = .int .i64 k ∧ (∀ j, j < k → okF (fAt L j) = true) ∧ Below w.heap.size w wr) (fun i _ => L.length - (intOf i).toNat)
    case atStart => exact ⟨0, by omega, rfl, by omega, Below.refl _ _⟩
    case round =>
      obtain ⟨k, hk, rfl, he, hb⟩ := hrel
      have HE := Lib.hid he
      clear he
      by_cases hlt : k < L.length
      · obtain ⟨b1, o1, rfl, hb1, r1⟩ := hA (by omega)
        have g1 := range_below (range_part r1 (fAt_get hlt)) hb hb1
        rw [eFr_n] at g1
        have cV := fun w => valid_any (fAt L k) (fAt_lt hL k) w
        clear hA r1
        cases ho : okF (fAt L k) with
        | true =>
          have HO := Lib.hid ho
          rw [ho] at cV
          clear ho
          go_wp2_with (first | (refine wpList_load_at rfl 26 24 _ rfl _ _ rfl g1 Tryd.underlying26 (by kernel_rfl) ?_) | (refine wpList_store_new (f0 := zeroF) (f := fAt L k) rfl 26 _ _ rfl rfl rfl (by kernel_rfl) ?_; have bn := Blk.new wr 26 (fAt L k); replace hb := hb.alloc hb.size (.cells (FC (fAt L k)) 26); clear g1; generalize wr.alloc (.cells (FC (fAt L k)) 26) = w2 at *) | (refine wpList_load_fr rfl 26 24 _ rfl _ rfl bn Tryd.underlying26 (by kernel_rfl) ?_) | (go_at_call 112; refine (cV _).mono ?_; rintro e w3 ⟨rfl, hb3⟩; replace hb := grown_below hb hb3 hb.size; clear hb3 bn))
          go_roundw
          case rel =>
            go_light
            refine ⟨k + 1, by omega, by go_num, ?_, hb⟩
            intro j hj
            rcases Nat.lt_succ_iff_lt_or_eq.1 hj with h | rfl
            · exact HE.out j h
            · exact HO.out
          case measure => simp [intOf]; omega
        | false =>
          have HO := Lib.hid ho
          rw [ho] at cV
          clear ho
          go_wp2_with (first | (refine wpList_load_at rfl 26 24 _ rfl _ _ rfl g1 Tryd.underlying26 (by kernel_rfl) ?_) | (refine wpList_store_new (f0 := zeroF) (f := fAt L k) rfl 26 _ _ rfl rfl rfl (by kernel_rfl) ?_; have bn := Blk.new wr 26 (fAt L k); replace hb := hb.alloc hb.size (.cells (FC (fAt L k)) 26); clear g1; generalize wr.alloc (.cells (FC (fAt L k)) 26) = w2 at *) | (refine wpList_load_fr rfl 26 24 _ rfl _ rfl bn Tryd.underlying26 (by kernel_rfl) ?_) | (go_at_call 112; refine (cV _).mono ?_; rintro e w3 ⟨rfl, hb3⟩; replace hb := grown_below hb hb3 hb.size; clear hb3 bn))
          go_ret
          exact ⟨ret_bool (okB_false_at hlt HO.out).symm, hb⟩
      · have hkl : k = L.length := by omega
        subst hkl
        clear hA
        go_wp2
        go_ret
        exact ⟨ret_bool (okB_iff.2 ⟨h40, HE.out⟩).symm, hb⟩
  · have h41 : 40 < L.length := by omega
    have hv := okB_false_len h41
    rw [hv]
    clear hA hv
    go_enter Tryd.func79, Tryd.ntmps79
    go_wp2
    go_ret
    exact ⟨rfl, Below.refl _ _⟩
end Go.Proofs.YtajlkleoincoeacDoor

/- MAJORITIES: spec's l04Most, impl's majority; MajorityOf, both. -/
namespace Go.Proofs.YtajlkleoincoeacDoor
set_option maxRecDepth 100000
open Go.RowKit
set_option linter.unusedVariables false
set_option linter.unusedSimpArgs false
def majF (a b c : Nat → Nat) : Nat → Nat := fun y => ((a y &&& b y) ||| (a y &&& c y)) ||| (b y &&& c y)
theorem majF_eq (a b c : Nat → Nat) : joinF (joinF (meetF a b) (meetF b c)) (meetF c a) = majF a b c := by
  funext y
  unfold joinF meetF majF
  apply Nat.eq_of_testBit_eq
  intro i
  simp only [Nat.testBit_or, Nat.testBit_and]
  cases (a y).testBit i <;> cases (b y).testBit i <;> cases (c y).testBit i <;> rfl
def majC (a b c : Nat → Nat) : Int := if okF a && (okF b && okF c) then 0 else 1
theorem majC_cases (a b c : Nat → Nat) : (okF a = false ∧ majC a b c = 1) ∨ (okF a = true ∧ okF b = false ∧ majC a b c = 1) ∨ (okF a = true ∧ okF b = true ∧ okF c = false ∧ majC a b c = 1) ∨ (okF a = true ∧ okF b = true ∧ okF c = true ∧ majC a b c = 0) := by
  unfold majC; cases okF a <;> cases okF b <;> cases okF c <;> simp
theorem majF_lt {a b c : Nat → Nat} (ha : ∀ k, a k < 65536) (hb : ∀ k, b k < 65536) (hc : ∀ k, c k < 65536) (k : Nat) : majF a b c k < 65536 := by
  unfold majF
  exact Nat.or_lt_two_pow (n := 16) (Nat.or_lt_two_pow (n := 16) (Nat.lt_of_le_of_lt Nat.and_le_left (ha k)) (Nat.lt_of_le_of_lt Nat.and_le_left (ha k))) (Nat.lt_of_le_of_lt Nat.and_le_left (hb k))
set_option maxHeartbeats 2000000 in
theorem majority_any (a b c : Nat → Nat) (ha : ∀ k, a k < 65536) (hb : ∀ k, b k < 65536) (hc : ∀ k, c k < 65536) (w : World) :
    Calls Tryd.prog 80 #[.agg (FC a), .agg (FC b), .agg (FC c)] w fun e w' => e = .returned (.agg (FC (majF a b c))) ∧ Below w.heap.size w w' := by
  have cM := fun f g (hf : ∀ k, f k < 65536) (hg : ∀ k, g k < 65536) W => meet_any f g hf hg W
  have c1 := cM a b ha hb
  have c2 := cM b c hb hc
  have c3 := cM c a hc ha
  have c4 := fun W => join_any (meetF a b) (meetF b c) (meetF_lt ha) (meetF_lt hb) W
  have c5 := fun W => join_any (joinF (meetF a b) (meetF b c)) (meetF c a) (joinF_lt (meetF_lt ha) (meetF_lt hb)) (meetF_lt hc) W
  rw [← majF_eq]
  clear cM
  have b1 := (((Blk.new w 26 a).alloc (.cells (FC b) 26)).alloc (.cells (FC c) 26)).alloc (.cells (FC zeroF) 26)
  have b2 := ((Blk.new (w.alloc (.cells (FC a) 26)) 26 b).alloc (.cells (FC c) 26)).alloc (.cells (FC zeroF) 26)
  have b3 := (Blk.new ((w.alloc (.cells (FC a) 26)).alloc (.cells (FC b) 26)) 26 c).alloc (.cells (FC zeroF) 26)
  have b4 := Blk.new (((w.alloc (.cells (FC a) 26)).alloc (.cells (FC b) 26)).alloc (.cells (FC c) 26)) 26 zeroF
  rw [World.size_alloc] at b2
  rw [World.size_alloc, World.size_alloc] at b3
  rw [World.size_alloc, World.size_alloc, World.size_alloc] at b4
  have h0 := ((((Below.refl w.heap.size w).alloc (Nat.le_refl _) (.cells (FC a) 26)).alloc (by simp) (.cells (FC b) 26)).alloc (by simp; omega) (.cells (FC c) 26)).alloc (by simp; omega) (.cells (FC zeroF) 26)
  have hsz : ((((w.alloc (.cells (FC a) 26)).alloc (.cells (FC b) 26)).alloc (.cells (FC c) 26)).alloc (.cells (FC zeroF) 26)).heap.size = w.heap.size + 1 + 1 + 1 + 1 := by simp
  rw [FC_zero] at b1 b2 b3 b4 h0 hsz
  have HSZ := Lib.hid hsz
  clear hsz
  go_enter Tryd.func80, Tryd.ntmps80
  go_wp2_with fail
  generalize ((((w.alloc _).alloc _).alloc _).alloc _) = w1 at *
  refine wp_region_tail 11 (by kernel_rfl) (by kernel_rfl) ?_
  simp only [List.take_succ_cons, List.take_zero, List.drop_succ_cons, List.drop_zero]
  repeat (first | (refine wpQuiet_load_fr rfl 26 24 _ rfl _ rfl (by first | exact b1 | exact b2 | exact b3) Tryd.underlying26 (by kernel_rfl) ?_) | quiet_step (first | with_reducible exact Calls.regrown_of (c1 _) | with_reducible exact Calls.regrown_of (c2 _) | with_reducible exact Calls.regrown_of (c3 _) | with_reducible exact Calls.regrown_of (c4 _) | with_reducible exact Calls.regrown_of (c5 _)))
  refine wpQuiet_nil ?_
  intro w5 hb1
  replace b1 := b1.below hb1 b1.lt
  replace b2 := b2.below hb1 b2.lt
  replace b3 := b3.below hb1 b3.lt
  replace b4 := b4.below hb1 b4.lt
  replace h0 := grown_below h0 hb1 h0.size
  clear hb1
  go_wp2_with (refine wpList_store_fr rfl 26 _ _ rfl _ rfl b4 rfl (by kernel_rfl) ?_)
  exact bodyPost_ret_fr (p := 6) (ty := 26) (e := 24) rfl rfl (b4.setRow _) Tryd.underlying26 (by kernel_rfl) rfl ⟨rfl, below_setRow h0 (by omega) _⟩
theorem run_build3 (a b c : Nat → Nat) (w : World) : (Instr.buildSlice 52 3 #[(0, .agg (FC a)), (1, .agg (FC b)), (2, .agg (FC c))]).run Tryd.prog w = .ok (.slice (some ⟨w.heap.size, 0, none⟩) 3 3) (w.alloc (.cells (eFr.cells [a, b, c]).toArray 26)) := by kernel_rfl
/-- A slice of three elements is built. -/
theorem wpList_build3 {P : Program} {ops : Array Oper} {rest : List Oper} {o : Oper} {a : Act} {w : World} {Q : Exit → Act → World → Prop} (hgd : o.guard = none) (t e : TypeId) (x y z : Operand) (ho : o.op = .buildSlice t 3 #[(0, x), (1, y), (2, z)]) {u v q : Value} {cs : Array Value} (hx : a.eval x = u) (hy : a.eval y = v) (hz : a.eval z = q)
    (hr : ∀ w, (Instr.buildSlice t 3 #[(0, u), (1, v), (2, q)]).run P w = .ok (.slice (some ⟨w.heap.size, 0, none⟩) 3 3) (w.alloc (.cells cs e)))
    (h : wpList P ops Q rest (a.put o.dst (.slice (some ⟨w.heap.size, 0, none⟩) 3 3)) (w.alloc (.cells cs e))) : wpList P ops Q (o :: rest) a w :=
  wpList_plain hgd fun K hK => by
    unfold Oper.wp execOp
    simp only [ho, List.map_toArray, List.map_cons, List.map_nil, hx, hy, hz, Sem.run_bind, hr, Result.andThen_ok, Sem.run_pure]
    exact hK _ _ h
theorem okB3 (a b c : Nat → Nat) : okB [a, b, c] = (okF a && (okF b && okF c)) := by
  unfold okB
  simp
set_option maxHeartbeats 2000000 in
theorem implMajorityOf_any (a b c : Nat → Nat) (ha : ∀ k, a k < 65536) (hb : ∀ k, b k < 65536) (hc : ∀ k, c k < 65536) (w : World) :
    Calls Tryd.prog 35 #[.agg (FC a), .agg (FC b), .agg (FC c)] w fun e w' => e = .returned (.tuple #[.agg (FC (ifC (majC a b c) (majF a b c))), .int .i64 (majC a b c)]) ∧ Below w.heap.size w w' := by
  have hbl : ∀ w, (Instr.build 26 #[]).run Tryd.prog w = .ok (.agg (FC zeroF)) w := build_fr
  have hbs := run_build3 a b c
  generalize hcs : (eFr.cells [a, b, c]).toArray = cs at hbs
  have HCS := Lib.hid hcs
  clear hcs
  have hL : ltL [a, b, c] := by
    intro f hf
    simp only [List.mem_cons, List.not_mem_nil, or_false] at hf
    rcases hf with rfl | rfl | rfl <;> assumption
  have cJ := fun W => majority_any a b c ha hb hc W
  have hmc : majC a b c = if okB [a, b, c] then 0 else 1 := by rw [okB3]; rfl
  have b1 := (((Blk.new w 26 a).alloc (.cells (FC b) 26)).alloc (.cells (FC c) 26)).alloc (.cells (FC zeroF) 26)
  have b2 := ((Blk.new (w.alloc (.cells (FC a) 26)) 26 b).alloc (.cells (FC c) 26)).alloc (.cells (FC zeroF) 26)
  have b3 := (Blk.new ((w.alloc (.cells (FC a) 26)).alloc (.cells (FC b) 26)) 26 c).alloc (.cells (FC zeroF) 26)
  have b4 := Blk.new (((w.alloc (.cells (FC a) 26)).alloc (.cells (FC b) 26)).alloc (.cells (FC c) 26)) 26 zeroF
  rw [World.size_alloc] at b2
  rw [World.size_alloc, World.size_alloc] at b3
  rw [World.size_alloc, World.size_alloc, World.size_alloc] at b4
  have h0 := ((((Below.refl w.heap.size w).alloc (Nat.le_refl _) (.cells (FC a) 26)).alloc (by simp) (.cells (FC b) 26)).alloc (by simp; omega) (.cells (FC c) 26)).alloc (by simp; omega) (.cells (FC zeroF) 26)
  have hsz : ((((w.alloc (.cells (FC a) 26)).alloc (.cells (FC b) 26)).alloc (.cells (FC c) 26)).alloc (.cells (FC zeroF) 26)).heap.size = w.heap.size + 1 + 1 + 1 + 1 := by simp
  rw [FC_zero] at b1 b2 b3 b4 h0 hsz
  have HSZ := Lib.hid hsz
  clear hsz
  have CJ := Lib.hid cJ
  clear cJ
  cases ho : okB [a, b, c] with
  | false =>
    rw [ho] at hmc
    have hmc1 : majC a b c = 1 := hmc
    rw [hmc1, show ifC 1 (majF a b c) = zeroF by simp [ifC]]
    clear hmc hmc1
    go_enter Tryd.func35, Tryd.ntmps35
    go_wp2_with (first | (refine wpList_load_fr rfl 26 24 _ rfl _ rfl b1 Tryd.underlying26 (by kernel_rfl) ?_) | (refine wpList_load_fr rfl 26 24 _ rfl _ rfl b2 Tryd.underlying26 (by kernel_rfl) ?_) | (refine wpList_load_fr rfl 26 24 _ rfl _ rfl b3 Tryd.underlying26 (by kernel_rfl) ?_) | (refine wpList_build3 (u := .agg (FC a)) (v := .agg (FC b)) (q := .agg (FC c)) rfl 52 26 _ _ _ rfl rfl rfl rfl hbs ?_))
    generalize ((((w.alloc _).alloc _).alloc _).alloc _) = w1 at *
    have hs : SlAt eFr (w1.alloc (.cells cs 26)) (w1.alloc (.cells cs 26)).heap.size (.slice (some ⟨w1.heap.size, 0, none⟩) 3 3) [a, b, c] :=
      (show Held eFr _ w1.heap.size 26 [a, b, c] by unfold Held; rw [HCS.out]; exact Row.new w1 26 cs).sl (n := 3) (c := 3) (by simp) (by omega) (by unfold maxLen; omega)
    have cV := implValidBook_any _ _ _ hL hs
    rw [ho, HSZ.out] at cV
    refine cV.mono ?_
    rintro e w2 ⟨rfl, hb1⟩
    clear HSZ
    replace hb1 := ((Below.refl w1.heap.size w1).alloc (Nat.le_refl _) (.cells cs 26)).trans (hb1.mono (by simp))
    clear cV hs hbs ho
    replace b1 := b1.below hb1 b1.lt
    replace b2 := b2.below hb1 b2.lt
    replace b3 := b3.below hb1 b3.lt
    replace b4 := b4.below hb1 b4.lt
    replace h0 := grown_below h0 hb1 h0.size
    clear hb1
    go_wp2_with (refine wpList_store_fr (f := zeroF) rfl 26 _ _ rfl _ rfl b4 rfl (by kernel_rfl) ?_)
    exact bodyPost_ret_fr2 (p := 6) (u := 7) (ty := 26) (e := 24) rfl rfl (b4.setRow _) Tryd.underlying26 (by kernel_rfl) rfl ⟨rfl, below_setRow h0 (by omega) _⟩
  | true =>
    rw [ho] at hmc
    have hmc1 : majC a b c = 0 := hmc
    rw [hmc1, show ifC 0 (majF a b c) = majF a b c by simp [ifC]]
    clear hmc hmc1
    go_enter Tryd.func35, Tryd.ntmps35
    go_wp2_with (first | (refine wpList_load_fr rfl 26 24 _ rfl _ rfl b1 Tryd.underlying26 (by kernel_rfl) ?_) | (refine wpList_load_fr rfl 26 24 _ rfl _ rfl b2 Tryd.underlying26 (by kernel_rfl) ?_) | (refine wpList_load_fr rfl 26 24 _ rfl _ rfl b3 Tryd.underlying26 (by kernel_rfl) ?_) | (refine wpList_build3 (u := .agg (FC a)) (v := .agg (FC b)) (q := .agg (FC c)) rfl 52 26 _ _ _ rfl rfl rfl rfl hbs ?_))
    generalize ((((w.alloc _).alloc _).alloc _).alloc _) = w1 at *
    have hs : SlAt eFr (w1.alloc (.cells cs 26)) (w1.alloc (.cells cs 26)).heap.size (.slice (some ⟨w1.heap.size, 0, none⟩) 3 3) [a, b, c] :=
      (show Held eFr _ w1.heap.size 26 [a, b, c] by unfold Held; rw [HCS.out]; exact Row.new w1 26 cs).sl (n := 3) (c := 3) (by simp) (by omega) (by unfold maxLen; omega)
    have cV := implValidBook_any _ _ _ hL hs
    rw [ho, HSZ.out] at cV
    refine cV.mono ?_
    rintro e w2 ⟨rfl, hb1⟩
    clear HSZ
    replace hb1 := ((Below.refl w1.heap.size w1).alloc (Nat.le_refl _) (.cells cs 26)).trans (hb1.mono (by simp))
    clear cV hs hbs ho
    replace b1 := b1.below hb1 b1.lt
    replace b2 := b2.below hb1 b2.lt
    replace b3 := b3.below hb1 b3.lt
    replace b4 := b4.below hb1 b4.lt
    replace h0 := grown_below h0 hb1 h0.size
    clear hb1
    go_wp2_with (first | (refine wpList_load_fr rfl 26 24 _ rfl _ rfl b1 Tryd.underlying26 (by kernel_rfl) ?_) | (refine wpList_load_fr rfl 26 24 _ rfl _ rfl b2 Tryd.underlying26 (by kernel_rfl) ?_) | (refine wpList_load_fr rfl 26 24 _ rfl _ rfl b3 Tryd.underlying26 (by kernel_rfl) ?_) | (go_at_call 80; refine (CJ.out _).mono ?_; rintro e w3 ⟨rfl, hb1⟩; replace b1 := b1.below hb1 b1.lt; replace b2 := b2.below hb1 b2.lt; replace b3 := b3.below hb1 b3.lt; replace b4 := b4.below hb1 b4.lt; replace h0 := grown_below h0 hb1 h0.size; clear hb1) | (refine wpList_store_fr rfl 26 _ _ rfl _ rfl b4 rfl (by kernel_rfl) ?_))
    exact bodyPost_ret_fr2 (p := 6) (u := 7) (ty := 26) (e := 24) rfl rfl (b4.setRow _) Tryd.underlying26 (by kernel_rfl) rfl ⟨rfl, below_setRow h0 (by omega) _⟩
end Go.Proofs.YtajlkleoincoeacDoor

/- impl: ofBoth, with whatever way of joining two frames. -/
namespace Go.Proofs.YtajlkleoincoeacDoor
set_option maxRecDepth 100000
open Go.RowKit
set_option linter.unusedVariables false
set_option maxHeartbeats 1000000 in
theorem ofBoth_any (way : FuncId) (f g r : Nat → Nat) (hf : ∀ k, f k < 65536) (hg : ∀ k, g k < 65536) (hcall : ∀ w, (callFunc way #[.agg (FC f), .agg (FC g)]).run Tryd.prog w = .ok (.enter way #[.agg (FC f), .agg (FC g)]) w)
    (hway : ∀ w, Calls Tryd.prog way #[.agg (FC f), .agg (FC g)] w fun e' w' => e' = .returned (.agg (FC r)) ∧ Below w.heap.size w w') (w : World) :
    Calls Tryd.prog 75 #[.agg (FC f), .agg (FC g), .func (.func way) #[] #[]] w fun e' w' => e' = .returned (.tuple #[.agg (FC (ifC (bothC f g) r)), .int .i64 (bothC f g)]) ∧ Below w.heap.size w w' := by
  have b1 := ((Blk.new w 26 f).alloc (.cells (FC g) 26)).alloc (.cells (FC zeroF) 26)
  have b2 := (Blk.new (w.alloc (.cells (FC f) 26)) 26 g).alloc (.cells (FC zeroF) 26)
  have b3 := Blk.new ((w.alloc (.cells (FC f) 26)).alloc (.cells (FC g) 26)) 26 zeroF
  rw [World.size_alloc] at b2
  rw [World.size_alloc, World.size_alloc] at b3
  have h0 := (((Below.refl w.heap.size w).alloc (Nat.le_refl _) (.cells (FC f) 26)).alloc (by simp) (.cells (FC g) 26)).alloc (by simp; omega) (.cells (FC zeroF) 26)
  rw [FC_zero] at b1 b2 b3 h0
  rcases bothC_cases f g with ⟨ho, ha⟩ | ⟨ho, h1, ha⟩ | ⟨ho, h1, ha⟩
  · clear hcall hway
    have hv : ifC 1 r = zeroF := by simp [ifC]
    go_enter Tryd.func75, Tryd.ntmps75
    go_wp2_with (first | (refine wpList_load_fr rfl 26 24 _ rfl _ rfl b1 Tryd.underlying26 (by kernel_rfl) ?_) | (go_at_call 112; refine (valid_any _ hf _).mono ?_; rintro e' w1 ⟨rfl, hb1⟩; replace b1 := b1.below hb1 b1.lt; replace b2 := b2.below hb1 b2.lt; replace b3 := b3.below hb1 b3.lt; replace h0 := grown_below h0 hb1 h0.size; clear hb1) | (refine wpList_store_fr (f := zeroF) rfl 26 _ _ rfl _ rfl b3 rfl (by kernel_rfl) ?_))
    exact bodyPost_ret_fr2 (p := 6) (u := 7) (ty := 26) (e := 24) rfl rfl (b3.setRow _) Tryd.underlying26 (by kernel_rfl) rfl ⟨by rw [ha, hv]; rfl, below_setRow h0 (by omega) _⟩
  · clear hcall hway
    have hv : ifC 1 r = zeroF := by simp [ifC]
    go_enter Tryd.func75, Tryd.ntmps75
    go_wp2_with (first | (refine wpList_load_fr rfl 26 24 _ rfl _ rfl b1 Tryd.underlying26 (by kernel_rfl) ?_) | (refine wpList_load_frG rfl 26 24 _ rfl _ rfl b2 Tryd.underlying26 (by kernel_rfl) ?_) | (go_at_call 112; refine (valid_any _ (by assumption) _).mono ?_; rintro e' w1 ⟨rfl, hb1⟩; replace b1 := b1.below hb1 b1.lt; replace b2 := b2.below hb1 b2.lt; replace b3 := b3.below hb1 b3.lt; replace h0 := grown_below h0 hb1 h0.size; clear hb1) | (refine wpList_store_fr (f := zeroF) rfl 26 _ _ rfl _ rfl b3 rfl (by kernel_rfl) ?_))
    exact bodyPost_ret_fr2 (p := 6) (u := 7) (ty := 26) (e := 24) rfl rfl (b3.setRow _) Tryd.underlying26 (by kernel_rfl) rfl ⟨by rw [ha, hv]; rfl, below_setRow h0 (by omega) _⟩
  · have HW := Lib.hid hway
    clear hway
    have hv : ifC 0 r = r := by simp [ifC]
    go_enter Tryd.func75, Tryd.ntmps75
    go_wp2_with (first | (refine wpList_load_fr rfl 26 24 _ rfl _ rfl b1 Tryd.underlying26 (by kernel_rfl) ?_) | (refine wpList_load_fr rfl 26 24 _ rfl _ rfl b2 Tryd.underlying26 (by kernel_rfl) ?_) | (refine wpList_load_frG rfl 26 24 _ rfl _ rfl b2 Tryd.underlying26 (by kernel_rfl) ?_) | (go_at_call 112; refine (valid_any _ (by assumption) _).mono ?_; rintro e' w1 ⟨rfl, hb1⟩; replace b1 := b1.below hb1 b1.lt; replace b2 := b2.below hb1 b2.lt; replace b3 := b3.below hb1 b3.lt; replace h0 := grown_below h0 hb1 h0.size; clear hb1))
    refine (HW.out _).mono ?_
    rintro e' w2 ⟨rfl, hb1⟩
    replace b3 := b3.below hb1 b3.lt
    replace h0 := grown_below h0 hb1 h0.size
    go_wp2_with (refine wpList_store_fr rfl 26 _ _ rfl _ rfl b3 rfl (by kernel_rfl) ?_)
    exact bodyPost_ret_fr2 (p := 6) (u := 7) (ty := 26) (e := 24) rfl rfl (b3.setRow _) Tryd.underlying26 (by kernel_rfl) rfl ⟨by rw [ha, hv]; rfl, below_setRow h0 (by omega) _⟩
end Go.Proofs.YtajlkleoincoeacDoor

/- DifferBy's number. -/
namespace Go.Proofs.YtajlkleoincoeacDoor
open Go.RowKit
set_option linter.unusedVariables false
/-- DifferBy's number. -/
def diffV (f g : Nat → Nat) : Int := if bothC f g = 0 then popSum (unlikeF f g) 12 else 0
theorem unlikeF_ok {f g : Nat → Nat} (hf : okF f = true) (hg : okF g = true) : okF (unlikeF f g) = true := okF_iff.2 fun y hy => by
  have h1 := okF_iff.1 hf y hy
  have h2 := okF_iff.1 hg y hy
  have : unlikeF f g y < 2 ^ 12 := Nat.xor_lt_two_pow (by omega) (by omega)
  omega
end Go.Proofs.YtajlkleoincoeacDoor
