/- MAJORITIES: spec's l04Most, impl's majority; MajorityOf, both. -/
import Derived.Test.YtennmnkjdchbhaaIJoin
import Derived.Test.YtennmnkjdchbhaaIMeet
import Derived.Test.YtennmnkjdchbhaaIBook
import Derived.Test.YtennmnkjdchbhaaWithDot
import Derived.Test.YtennmnkjdchbhaaCellQ
namespace Go.Proofs.Ytennmnkjdchbhaa
set_option maxRecDepth 100000
open Go.RowKit
set_option linter.unusedVariables false
set_option linter.unusedSimpArgs false
def majF (a b c : Nat → Nat) : Nat → Nat := fun y => ((a y &&& b y) ||| (a y &&& c y)) ||| (b y &&& c y)
theorem majF_eq (a b c : Nat → Nat) : joinF (joinF (meetF a b) (meetF b c)) (meetF c a) = majF a b c := by
  funext y
  unfold joinF meetF majF
  apply Nat.eq_of_testBit_eq
  intro i
  simp only [Nat.testBit_or, Nat.testBit_and]
  cases (a y).testBit i <;> cases (b y).testBit i <;> cases (c y).testBit i <;> rfl
def majC (a b c : Nat → Nat) : Int := if okF a && (okF b && okF c) then 0 else 1
theorem majC_cases (a b c : Nat → Nat) : (okF a = false ∧ majC a b c = 1) ∨ (okF a = true ∧ okF b = false ∧ majC a b c = 1) ∨ (okF a = true ∧ okF b = true ∧ okF c = false ∧ majC a b c = 1) ∨ (okF a = true ∧ okF b = true ∧ okF c = true ∧ majC a b c = 0) := by
  unfold majC; cases okF a <;> cases okF b <;> cases okF c <;> simp
theorem majF_lt {a b c : Nat → Nat} (ha : ∀ k, a k < 65536) (hb : ∀ k, b k < 65536) (hc : ∀ k, c k < 65536) (k : Nat) : majF a b c k < 65536 := by
  unfold majF
  exact Nat.or_lt_two_pow (n := 16) (Nat.or_lt_two_pow (n := 16) (Nat.lt_of_le_of_lt Nat.and_le_left (ha k)) (Nat.lt_of_le_of_lt Nat.and_le_left (ha k))) (Nat.lt_of_le_of_lt Nat.and_le_left (hb k))
set_option maxHeartbeats 4000000 in
theorem most_any (p1 o1 p2 o2 p3 o3 : Nat) (a b c : Nat → Nat) (ha : ∀ k, a k < 65536) (hb : ∀ k, b k < 65536) (hc : ∀ k, c k < 65536) (w : World) (r1 : w.rangeAt p1 o1 (FC a).toList) (l1 : p1 < w.heap.size) (r2 : w.rangeAt p2 o2 (FC b).toList) (l2 : p2 < w.heap.size) (r3 : w.rangeAt p3 o3 (FC c).toList) (l3 : p3 < w.heap.size) :
    Calls Try.prog 77 #[.pointer (some ⟨p1, o1, none⟩), .pointer (some ⟨p2, o2, none⟩), .pointer (some ⟨p3, o3, none⟩)] w fun e w' => e = .returned (.agg (FC (majF a b c))) ∧ Below w.heap.size w w' := by
  have hbl : ∀ w, (Instr.build 50 #[]).run Try.prog w = .ok (.agg (FC zeroF)) w := build_fr
  have b4 := (Blk.new w 50 zeroF).alloc (.cells (FC zeroF) 50)
  have b5 := Blk.new (w.alloc (.cells (FC zeroF) 50)) 50 zeroF
  rw [World.size_alloc] at b5
  have h0 := ((Below.refl w.heap.size w).alloc (Nat.le_refl _) (.cells (FC zeroF) 50)).alloc (by simp) (.cells (FC zeroF) 50)
  rw [FC_zero] at b4 b5 h0
  go_enter Try.func77, Try.ntmps77
  go_wp2_with (refine wpList_store_new (f0 := zeroF) (f := zeroF) rfl 50 _ _ rfl rfl rfl (by kernel_rfl) ?_)
  clear hbl
  try rw [FC_zero]
  generalize ((w.alloc _).alloc _) = w1 at *
  go_loopw [8] (fun i wr => ∃ k : Nat, k ≤ 12 ∧ i = .int .i64 k ∧ Blk wr w.heap.size 50 zeroF ∧ Blk wr (w.heap.size + 1) 50 (fun y => if y < k then majF a b c y else 0) ∧ Below w.heap.size w wr) (fun i _ => 12 - (intOf i).toNat)
  case atStart => exact ⟨0, by omega, rfl, b4, b5.ext (by simp [zeroF]), h0⟩
  case round =>
    clear b4 b5 h0
    obtain ⟨k, hk, rfl, b4, b5, hb0⟩ := hrel
    by_cases hlt : k < 12
    · have c1 := cell_q (fr_cell (range_below r1 hb0 l1) hlt)
      have c2 := cell_q (fr_cell (range_below r2 hb0 l2) hlt)
      have c3 := cell_q (fr_cell (range_below r3 hb0 l3) hlt)
      have k1 := u16_and_nat (a k) (b k) (ha k) (hb k)
      have k2 := u16_and_nat (a k) (c k) (ha k) (hc k)
      have k3 := u16_and_nat (b k) (c k) (hb k) (hc k)
      have k4 := u16_or_nat (a k &&& b k) (a k &&& c k) (Nat.lt_of_le_of_lt Nat.and_le_left (ha k)) (Nat.lt_of_le_of_lt Nat.and_le_left (ha k))
      have k5 := u16_or_nat ((a k &&& b k) ||| (a k &&& c k)) (b k &&& c k) (Nat.or_lt_two_pow (n := 16) (Nat.lt_of_le_of_lt Nat.and_le_left (ha k)) (Nat.lt_of_le_of_lt Nat.and_le_left (ha k))) (Nat.lt_of_le_of_lt Nat.and_le_left (hb k))
      have hm : majF a b c k = ((a k &&& b k) ||| (a k &&& c k)) ||| (b k &&& c k) := rfl
      have HM := Lib.hid hm
      have hz1 : (0 : Int) ≤ (k : Int) := by omega
      have hz2 : (k : Int) < 12 := by omega
      clear hm r1 r2 r3
      go_wp2_with fail
      refine wp_region_tail 37 (by kernel_rfl) (by kernel_rfl) ?_
      simp only [List.take_succ_cons, List.take_zero, List.drop_succ_cons, List.drop_zero]
      repeat (quiet_step (fail))
      refine wpQuiet_nil ?_
      intro w5 hb5
      replace b4 := b4.below hb5 b4.lt
      replace b5 := b5.below hb5 b5.lt
      replace hb0 := grown_below hb0 hb5 hb0.size
      have c5 := b5.cell hlt
      have f5 := b5.free k
      clear c1 c2 c3 k1 k2 k3 k4 k5 hb5
      go_wp2
      go_roundw
      case rel =>
        go_light
        refine ⟨k + 1, by omega, by go_num, b4.other _ (by show w.heap.size ≠ w.heap.size + 1; omega), (b5.set hlt _).ext ?_, hb0.setCell (by show w.heap.size ≤ w.heap.size + 1; omega) _⟩
        intro j hj
        unfold upd
        by_cases e : j = k
        · subst e; simp [HM.out]
        · rw [if_neg e]; simp only [show j < k + 1 ↔ j < k by omega]
      case measure => simp [intOf]; omega
    · have h12 : k = 12 := by omega
      subst h12
      replace b5 := b5.ext (f' := majF a b c) (fun j hj => by rw [if_pos (by omega)])
      go_wp2_with (first | (refine wpList_load_fr rfl 50 48 _ rfl _ rfl b5 Try.underlying50 (by kernel_rfl) ?_) | (refine wpList_store_fr rfl 50 _ _ rfl _ rfl b4 rfl (by kernel_rfl) ?_))
      exact bodyPost_ret_fr (p := 6) (ty := 50) (e := 48) rfl rfl (b4.setRow _) Try.underlying50 (by kernel_rfl) rfl ⟨rfl, below_setRow hb0 (by omega) _⟩
set_option maxHeartbeats 2000000 in
theorem majority_any (a b c : Nat → Nat) (ha : ∀ k, a k < 65536) (hb : ∀ k, b k < 65536) (hc : ∀ k, c k < 65536) (w : World) :
    Calls Try.prog 78 #[.agg (FC a), .agg (FC b), .agg (FC c)] w fun e w' => e = .returned (.agg (FC (majF a b c))) ∧ Below w.heap.size w w' := by
  have cM := fun f g (hf : ∀ k, f k < 65536) (hg : ∀ k, g k < 65536) W => meet_any f g hf hg W
  have c1 := cM a b ha hb
  have c2 := cM b c hb hc
  have c3 := cM c a hc ha
  have c4 := fun W => join_any (meetF a b) (meetF b c) (meetF_lt ha) (meetF_lt hb) W
  have c5 := fun W => join_any (joinF (meetF a b) (meetF b c)) (meetF c a) (joinF_lt (meetF_lt ha) (meetF_lt hb)) (meetF_lt hc) W
  rw [← majF_eq]
  clear cM
  have b1 := (((Blk.new w 50 a).alloc (.cells (FC b) 50)).alloc (.cells (FC c) 50)).alloc (.cells (FC zeroF) 50)
  have b2 := ((Blk.new (w.alloc (.cells (FC a) 50)) 50 b).alloc (.cells (FC c) 50)).alloc (.cells (FC zeroF) 50)
  have b3 := (Blk.new ((w.alloc (.cells (FC a) 50)).alloc (.cells (FC b) 50)) 50 c).alloc (.cells (FC zeroF) 50)
  have b4 := Blk.new (((w.alloc (.cells (FC a) 50)).alloc (.cells (FC b) 50)).alloc (.cells (FC c) 50)) 50 zeroF
  rw [World.size_alloc] at b2
  rw [World.size_alloc, World.size_alloc] at b3
  rw [World.size_alloc, World.size_alloc, World.size_alloc] at b4
  have h0 := ((((Below.refl w.heap.size w).alloc (Nat.le_refl _) (.cells (FC a) 50)).alloc (by simp) (.cells (FC b) 50)).alloc (by simp; omega) (.cells (FC c) 50)).alloc (by simp; omega) (.cells (FC zeroF) 50)
  have hsz : ((((w.alloc (.cells (FC a) 50)).alloc (.cells (FC b) 50)).alloc (.cells (FC c) 50)).alloc (.cells (FC zeroF) 50)).heap.size = w.heap.size + 1 + 1 + 1 + 1 := by simp
  rw [FC_zero] at b1 b2 b3 b4 h0 hsz
  have HSZ := Lib.hid hsz
  clear hsz
  go_enter Try.func78, Try.ntmps78
  go_wp2_with fail
  generalize ((((w.alloc _).alloc _).alloc _).alloc _) = w1 at *
  refine wp_region_tail 11 (by kernel_rfl) (by kernel_rfl) ?_
  simp only [List.take_succ_cons, List.take_zero, List.drop_succ_cons, List.drop_zero]
  repeat (first | (refine wpQuiet_load_fr rfl 50 48 _ rfl _ rfl (by first | exact b1 | exact b2 | exact b3) Try.underlying50 (by kernel_rfl) ?_) | quiet_step (first | with_reducible exact Calls.regrown_of (c1 _) | with_reducible exact Calls.regrown_of (c2 _) | with_reducible exact Calls.regrown_of (c3 _) | with_reducible exact Calls.regrown_of (c4 _) | with_reducible exact Calls.regrown_of (c5 _)))
  refine wpQuiet_nil ?_
  intro w5 hb1
  replace b1 := b1.below hb1 b1.lt
  replace b2 := b2.below hb1 b2.lt
  replace b3 := b3.below hb1 b3.lt
  replace b4 := b4.below hb1 b4.lt
  replace h0 := grown_below h0 hb1 h0.size
  clear hb1
  go_wp2_with (refine wpList_store_fr rfl 50 _ _ rfl _ rfl b4 rfl (by kernel_rfl) ?_)
  exact bodyPost_ret_fr (p := 6) (ty := 50) (e := 48) rfl rfl (b4.setRow _) Try.underlying50 (by kernel_rfl) rfl ⟨rfl, below_setRow h0 (by omega) _⟩
theorem run_build3 (a b c : Nat → Nat) (w : World) : (Instr.buildSlice 28 3 #[(0, .agg (FC a)), (1, .agg (FC b)), (2, .agg (FC c))]).run Try.prog w = .ok (.slice (some ⟨w.heap.size, 0, none⟩) 3 3) (w.alloc (.cells (eFr.cells [a, b, c]).toArray 50)) := by kernel_rfl
/-- A slice of three elements is built. -/
theorem wpList_build3 {P : Program} {ops : Array Oper} {rest : List Oper} {o : Oper} {a : Act} {w : World} {Q : Exit → Act → World → Prop} (hgd : o.guard = none) (t e : TypeId) (x y z : Operand) (ho : o.op = .buildSlice t 3 #[(0, x), (1, y), (2, z)]) {u v q : Value} {cs : Array Value} (hx : a.eval x = u) (hy : a.eval y = v) (hz : a.eval z = q)
    (hr : ∀ w, (Instr.buildSlice t 3 #[(0, u), (1, v), (2, q)]).run P w = .ok (.slice (some ⟨w.heap.size, 0, none⟩) 3 3) (w.alloc (.cells cs e)))
    (h : wpList P ops Q rest (a.put o.dst (.slice (some ⟨w.heap.size, 0, none⟩) 3 3)) (w.alloc (.cells cs e))) : wpList P ops Q (o :: rest) a w :=
  wpList_plain hgd fun K hK => by
    unfold Oper.wp execOp
    simp only [ho, List.map_toArray, List.map_cons, List.map_nil, hx, hy, hz, Sem.run_bind, hr, Result.andThen_ok, Sem.run_pure]
    exact hK _ _ h
theorem okB3 (a b c : Nat → Nat) : okB [a, b, c] = (okF a && (okF b && okF c)) := by
  unfold okB
  simp
set_option maxHeartbeats 2000000 in
theorem implMajorityOf_any (a b c : Nat → Nat) (ha : ∀ k, a k < 65536) (hb : ∀ k, b k < 65536) (hc : ∀ k, c k < 65536) (w : World) :
    Calls Try.prog 40 #[.agg (FC a), .agg (FC b), .agg (FC c)] w fun e w' => e = .returned (.tuple #[.agg (FC (ifC (majC a b c) (majF a b c))), .int .i64 (majC a b c)]) ∧ Below w.heap.size w w' := by
  have hbl : ∀ w, (Instr.build 50 #[]).run Try.prog w = .ok (.agg (FC zeroF)) w := build_fr
  have hbs := run_build3 a b c
  generalize hcs : (eFr.cells [a, b, c]).toArray = cs at hbs
  have HCS := Lib.hid hcs
  clear hcs
  have hL : ltL [a, b, c] := by
    intro f hf
    simp only [List.mem_cons, List.not_mem_nil, or_false] at hf
    rcases hf with rfl | rfl | rfl <;> assumption
  have cJ := fun W => majority_any a b c ha hb hc W
  have hmc : majC a b c = if okB [a, b, c] then 0 else 1 := by rw [okB3]; rfl
  have b1 := (((Blk.new w 50 a).alloc (.cells (FC b) 50)).alloc (.cells (FC c) 50)).alloc (.cells (FC zeroF) 50)
  have b2 := ((Blk.new (w.alloc (.cells (FC a) 50)) 50 b).alloc (.cells (FC c) 50)).alloc (.cells (FC zeroF) 50)
  have b3 := (Blk.new ((w.alloc (.cells (FC a) 50)).alloc (.cells (FC b) 50)) 50 c).alloc (.cells (FC zeroF) 50)
  have b4 := Blk.new (((w.alloc (.cells (FC a) 50)).alloc (.cells (FC b) 50)).alloc (.cells (FC c) 50)) 50 zeroF
  rw [World.size_alloc] at b2
  rw [World.size_alloc, World.size_alloc] at b3
  rw [World.size_alloc, World.size_alloc, World.size_alloc] at b4
  have h0 := ((((Below.refl w.heap.size w).alloc (Nat.le_refl _) (.cells (FC a) 50)).alloc (by simp) (.cells (FC b) 50)).alloc (by simp; omega) (.cells (FC c) 50)).alloc (by simp; omega) (.cells (FC zeroF) 50)
  have hsz : ((((w.alloc (.cells (FC a) 50)).alloc (.cells (FC b) 50)).alloc (.cells (FC c) 50)).alloc (.cells (FC zeroF) 50)).heap.size = w.heap.size + 1 + 1 + 1 + 1 := by simp
  rw [FC_zero] at b1 b2 b3 b4 h0 hsz
  have HSZ := Lib.hid hsz
  clear hsz
  have CJ := Lib.hid cJ
  clear cJ
  cases ho : okB [a, b, c] with
  | false =>
    rw [ho] at hmc
    have hmc1 : majC a b c = 1 := hmc
    rw [hmc1, show ifC 1 (majF a b c) = zeroF by simp [ifC]]
    clear hmc hmc1
    go_enter Try.func40, Try.ntmps40
    go_wp2_with (first | (refine wpList_load_fr rfl 50 48 _ rfl _ rfl b1 Try.underlying50 (by kernel_rfl) ?_) | (refine wpList_load_fr rfl 50 48 _ rfl _ rfl b2 Try.underlying50 (by kernel_rfl) ?_) | (refine wpList_load_fr rfl 50 48 _ rfl _ rfl b3 Try.underlying50 (by kernel_rfl) ?_) | (refine wpList_build3 (u := .agg (FC a)) (v := .agg (FC b)) (q := .agg (FC c)) rfl 28 50 _ _ _ rfl rfl rfl rfl hbs ?_))
    generalize ((((w.alloc _).alloc _).alloc _).alloc _) = w1 at *
    have hs : SlAt eFr (w1.alloc (.cells cs 50)) (w1.alloc (.cells cs 50)).heap.size (.slice (some ⟨w1.heap.size, 0, none⟩) 3 3) [a, b, c] :=
      (show Held eFr _ w1.heap.size 50 [a, b, c] by unfold Held; rw [HCS.out]; exact Row.new w1 50 cs).sl (n := 3) (c := 3) (by simp) (by omega) (by unfold maxLen; omega)
    have cV := implValidBook_any _ _ _ hL hs
    rw [ho, HSZ.out] at cV
    refine cV.mono ?_
    rintro e w2 ⟨rfl, hb1⟩
    clear HSZ
    replace hb1 := ((Below.refl w1.heap.size w1).alloc (Nat.le_refl _) (.cells cs 50)).trans (hb1.mono (by simp))
    clear cV hs hbs ho
    replace b1 := b1.below hb1 b1.lt
    replace b2 := b2.below hb1 b2.lt
    replace b3 := b3.below hb1 b3.lt
    replace b4 := b4.below hb1 b4.lt
    replace h0 := grown_below h0 hb1 h0.size
    clear hb1
    go_wp2_with (refine wpList_store_fr (f := zeroF) rfl 50 _ _ rfl _ rfl b4 rfl (by kernel_rfl) ?_)
    exact bodyPost_ret_fr2 (p := 6) (u := 7) (ty := 50) (e := 48) rfl rfl (b4.setRow _) Try.underlying50 (by kernel_rfl) rfl ⟨rfl, below_setRow h0 (by omega) _⟩
  | true =>
    rw [ho] at hmc
    have hmc1 : majC a b c = 0 := hmc
    rw [hmc1, show ifC 0 (majF a b c) = majF a b c by simp [ifC]]
    clear hmc hmc1
    go_enter Try.func40, Try.ntmps40
    go_wp2_with (first | (refine wpList_load_fr rfl 50 48 _ rfl _ rfl b1 Try.underlying50 (by kernel_rfl) ?_) | (refine wpList_load_fr rfl 50 48 _ rfl _ rfl b2 Try.underlying50 (by kernel_rfl) ?_) | (refine wpList_load_fr rfl 50 48 _ rfl _ rfl b3 Try.underlying50 (by kernel_rfl) ?_) | (refine wpList_build3 (u := .agg (FC a)) (v := .agg (FC b)) (q := .agg (FC c)) rfl 28 50 _ _ _ rfl rfl rfl rfl hbs ?_))
    generalize ((((w.alloc _).alloc _).alloc _).alloc _) = w1 at *
    have hs : SlAt eFr (w1.alloc (.cells cs 50)) (w1.alloc (.cells cs 50)).heap.size (.slice (some ⟨w1.heap.size, 0, none⟩) 3 3) [a, b, c] :=
      (show Held eFr _ w1.heap.size 50 [a, b, c] by unfold Held; rw [HCS.out]; exact Row.new w1 50 cs).sl (n := 3) (c := 3) (by simp) (by omega) (by unfold maxLen; omega)
    have cV := implValidBook_any _ _ _ hL hs
    rw [ho, HSZ.out] at cV
    refine cV.mono ?_
    rintro e w2 ⟨rfl, hb1⟩
    clear HSZ
    replace hb1 := ((Below.refl w1.heap.size w1).alloc (Nat.le_refl _) (.cells cs 50)).trans (hb1.mono (by simp))
    clear cV hs hbs ho
    replace b1 := b1.below hb1 b1.lt
    replace b2 := b2.below hb1 b2.lt
    replace b3 := b3.below hb1 b3.lt
    replace b4 := b4.below hb1 b4.lt
    replace h0 := grown_below h0 hb1 h0.size
    clear hb1
    go_wp2_with (first | (refine wpList_load_fr rfl 50 48 _ rfl _ rfl b1 Try.underlying50 (by kernel_rfl) ?_) | (refine wpList_load_fr rfl 50 48 _ rfl _ rfl b2 Try.underlying50 (by kernel_rfl) ?_) | (refine wpList_load_fr rfl 50 48 _ rfl _ rfl b3 Try.underlying50 (by kernel_rfl) ?_) | (go_at_call 78; refine (CJ.out _).mono ?_; rintro e w3 ⟨rfl, hb1⟩; replace b1 := b1.below hb1 b1.lt; replace b2 := b2.below hb1 b2.lt; replace b3 := b3.below hb1 b3.lt; replace b4 := b4.below hb1 b4.lt; replace h0 := grown_below h0 hb1 h0.size; clear hb1) | (refine wpList_store_fr rfl 50 _ _ rfl _ rfl b4 rfl (by kernel_rfl) ?_))
    exact bodyPost_ret_fr2 (p := 6) (u := 7) (ty := 50) (e := 48) rfl rfl (b4.setRow _) Try.underlying50 (by kernel_rfl) rfl ⟨rfl, below_setRow h0 (by omega) _⟩
set_option maxHeartbeats 2000000 in
theorem specMajorityOf_any (a b c : Nat → Nat) (ha : ∀ k, a k < 65536) (hb : ∀ k, b k < 65536) (hc : ∀ k, c k < 65536) (w : World) :
    Calls Try.prog 38 #[.agg (FC a), .agg (FC b), .agg (FC c)] w fun e w' => e = .returned (.tuple #[.agg (FC (ifC (majC a b c) (majF a b c))), .int .i64 (majC a b c)]) ∧ Below w.heap.size w w' := by
  have hbl : ∀ w, (Instr.build 50 #[]).run Try.prog w = .ok (.agg (FC zeroF)) w := build_fr
  have b1 := (((Blk.new w 50 a).alloc (.cells (FC b) 50)).alloc (.cells (FC c) 50)).alloc (.cells (FC zeroF) 50)
  have b2 := ((Blk.new (w.alloc (.cells (FC a) 50)) 50 b).alloc (.cells (FC c) 50)).alloc (.cells (FC zeroF) 50)
  have b3 := (Blk.new ((w.alloc (.cells (FC a) 50)).alloc (.cells (FC b) 50)) 50 c).alloc (.cells (FC zeroF) 50)
  have b4 := Blk.new (((w.alloc (.cells (FC a) 50)).alloc (.cells (FC b) 50)).alloc (.cells (FC c) 50)) 50 zeroF
  rw [World.size_alloc] at b2
  rw [World.size_alloc, World.size_alloc] at b3
  rw [World.size_alloc, World.size_alloc, World.size_alloc] at b4
  have h0 := ((((Below.refl w.heap.size w).alloc (Nat.le_refl _) (.cells (FC a) 50)).alloc (by simp) (.cells (FC b) 50)).alloc (by simp; omega) (.cells (FC c) 50)).alloc (by simp; omega) (.cells (FC zeroF) 50)
  have hsz : ((((w.alloc (.cells (FC a) 50)).alloc (.cells (FC b) 50)).alloc (.cells (FC c) 50)).alloc (.cells (FC zeroF) 50)).heap.size = w.heap.size + 1 + 1 + 1 + 1 := by simp
  rw [FC_zero] at b1 b2 b3 b4 h0 hsz
  have HSZ := Lib.hid hsz
  clear hsz
  rcases majC_cases a b c with ⟨h1, hm⟩ | ⟨h1, h2, hm⟩ | ⟨h1, h2, h3, hm⟩ | ⟨h1, h2, h3, hm⟩
  · rw [hm, show ifC 1 (majF a b c) = zeroF by simp [ifC]]
    go_enter Try.func38, Try.ntmps38
    go_wp2_with fail
    generalize ((((w.alloc _).alloc _).alloc _).alloc _) = w1 at *
    have cA := ok_any _ a w1 b1
    have cB := ok_any _ b w1 b2
    have cC := ok_any _ c w1 b3
    rw [h1] at cA
    have CB := Lib.hid cB
    have CC := Lib.hid cC
    clear cB cC hm h1
    refine cA.mono ?_
    rintro e w' ⟨rfl, rfl⟩
    clear cA
    go_wp2_with (refine wpList_store_fr (f := zeroF) rfl 50 _ _ rfl _ rfl b4 rfl (by kernel_rfl) ?_)
    exact bodyPost_ret_fr2 (p := 6) (u := 7) (ty := 50) (e := 48) rfl rfl (b4.setRow _) Try.underlying50 (by kernel_rfl) rfl ⟨rfl, below_setRow h0 (by omega) _⟩
  · rw [hm, show ifC 1 (majF a b c) = zeroF by simp [ifC]]
    go_enter Try.func38, Try.ntmps38
    go_wp2_with fail
    generalize ((((w.alloc _).alloc _).alloc _).alloc _) = w1 at *
    have cA := ok_any _ a w1 b1
    have cB := ok_any _ b w1 b2
    have cC := ok_any _ c w1 b3
    rw [h1] at cA
    rw [h2] at cB
    have CB := Lib.hid cB
    have CC := Lib.hid cC
    clear cB cC hm h1 h2
    refine cA.mono ?_
    rintro e w' ⟨rfl, rfl⟩
    clear cA
    go_wp2_with fail
    refine (CB.out).mono ?_
    rintro e w' ⟨rfl, rfl⟩
    go_wp2_with (refine wpList_store_fr (f := zeroF) rfl 50 _ _ rfl _ rfl b4 rfl (by kernel_rfl) ?_)
    exact bodyPost_ret_fr2 (p := 6) (u := 7) (ty := 50) (e := 48) rfl rfl (b4.setRow _) Try.underlying50 (by kernel_rfl) rfl ⟨rfl, below_setRow h0 (by omega) _⟩
  · rw [hm, show ifC 1 (majF a b c) = zeroF by simp [ifC]]
    go_enter Try.func38, Try.ntmps38
    go_wp2_with fail
    generalize ((((w.alloc _).alloc _).alloc _).alloc _) = w1 at *
    have cA := ok_any _ a w1 b1
    have cB := ok_any _ b w1 b2
    have cC := ok_any _ c w1 b3
    rw [h1] at cA
    rw [h2] at cB
    rw [h3] at cC
    have CB := Lib.hid cB
    have CC := Lib.hid cC
    clear cB cC hm h1 h2 h3
    refine cA.mono ?_
    rintro e w' ⟨rfl, rfl⟩
    clear cA
    go_wp2_with fail
    refine (CB.out).mono ?_
    rintro e w' ⟨rfl, rfl⟩
    go_wp2_with fail
    refine (CC.out).mono ?_
    rintro e w' ⟨rfl, rfl⟩
    go_wp2_with (refine wpList_store_fr (f := zeroF) rfl 50 _ _ rfl _ rfl b4 rfl (by kernel_rfl) ?_)
    exact bodyPost_ret_fr2 (p := 6) (u := 7) (ty := 50) (e := 48) rfl rfl (b4.setRow _) Try.underlying50 (by kernel_rfl) rfl ⟨rfl, below_setRow h0 (by omega) _⟩
  · rw [hm, show ifC 0 (majF a b c) = majF a b c by simp [ifC]]
    go_enter Try.func38, Try.ntmps38
    go_wp2_with fail
    generalize ((((w.alloc _).alloc _).alloc _).alloc _) = w1 at *
    have cA := ok_any _ a w1 b1
    have cB := ok_any _ b w1 b2
    have cC := ok_any _ c w1 b3
    rw [h1] at cA
    rw [h2] at cB
    rw [h3] at cC
    have CB := Lib.hid cB
    have CC := Lib.hid cC
    clear cB cC hm h1 h2 h3
    refine cA.mono ?_
    rintro e w' ⟨rfl, rfl⟩
    clear cA
    go_wp2_with fail
    refine (CB.out).mono ?_
    rintro e w' ⟨rfl, rfl⟩
    go_wp2_with fail
    refine (CC.out).mono ?_
    rintro e w' ⟨rfl, rfl⟩
    go_wp2_with fail
    refine (most_any _ _ _ _ _ _ a b c ha hb hc w1 b1.range b1.lt b2.range b2.lt b3.range b3.lt).mono ?_
    rintro e w2 ⟨rfl, hb1⟩
    replace b1 := b1.below hb1 b1.lt
    replace b2 := b2.below hb1 b2.lt
    replace b3 := b3.below hb1 b3.lt
    replace b4 := b4.below hb1 b4.lt
    replace h0 := grown_below h0 hb1 h0.size
    clear hb1
    go_wp2_with (refine wpList_store_fr rfl 50 _ _ rfl _ rfl b4 rfl (by kernel_rfl) ?_)
    exact bodyPost_ret_fr2 (p := 6) (u := 7) (ty := 50) (e := 48) rfl rfl (b4.setRow _) Try.underlying50 (by kernel_rfl) rfl ⟨rfl, below_setRow h0 (by omega) _⟩
end Go.Proofs.Ytennmnkjdchbhaa
