import Derived.Test.YtpmlepgnokbpaaaM2
import Derived.Test.YtpmlepgnokbpaaaM1
import Derived.Test.YtpmlepgnokbpaaaM5
import Derived.Test.YtpmlepgnokbpaaaRows
import Derived.Test.YtpmlepgnokbpaaaM12
import Derived.Test.YtpmlepgnokbpaaaM9
import Derived.Test.YtpmlepgnokbpaaaM13
/- LOADS of whole frames under a guard that is met, in a region that draws its order. -/
namespace Go.Proofs.Ytpmlepgnokbpaaa
open Go.RowKit
set_option linter.unusedVariables false
set_option linter.unusedSimpArgs false
section
variable {P : Program} {ops : Array Oper} {rest : List Oper} {o : Oper} {a : Act} {w : World}
open Go.Sort in
theorem wpQuiet_load_frG {Q : Act → Prop} (hw : Region.wanted o (yielded ops a.tmps) = true) (ty e : TypeId) (x : Operand) (ho : o.op = .load ty x) (g : Nat) (hx : a.eval x = .pointer (some ⟨g, 0, none⟩))
    {t : TypeId} {f : Nat → Nat} (hb : Blk w g t f) (hu : P.underlying ty = some (.array 12 e)) (hi : (P.info? ty).map (·.size) = some 12)
    (h : wpQuiet P ops (fun w' => ∃ p : Regrown, w' = grow (redrawn w p.d) p.os) Q rest (a.put o.dst (.agg (FC f)))) : wpQuiet P ops (fun w' => ∃ p : Regrown, w' = grow (redrawn w p.d) p.os) Q (o :: rest) a := by
  unfold wpQuiet
  rw [if_pos hw]
  refine ⟨_, ?_, h⟩
  rintro w' ⟨p, rfl⟩
  have hb' : Blk (grow (redrawn w p.d) p.os) g t f := hb.below (below_regrown w p.d p.os) hb.lt
  unfold Oper.quietAt execOp
  simp only [ho, hx, Instr.loadAt, Instr.sureAddr, Sem.run_bind, Sem.run_pure, Result.andThen_ok, run_loadVar_row _ g t ty (FC f) (0, 0) _ hb' hu rfl hi]
  exact ⟨rfl, rfl⟩
open Go.Sort in
theorem wpQuiet_load_atG {Q : Act → Prop} (hw : Region.wanted o (yielded ops a.tmps) = true) (ty e : TypeId) (x : Operand) (ho : o.op = .load ty x) (b off : Nat) (hx : a.eval x = .pointer (some ⟨b, off, none⟩)) {f : Nat → Nat} (hb : w.rangeAt b off (FC f).toList) (hlt : b < w.heap.size)
    (hu : P.underlying ty = some (.array 12 e)) (hi : (P.info? ty).map (·.size) = some 12)
    (h : wpQuiet P ops (fun w' => ∃ p : Regrown, w' = grow (redrawn w p.d) p.os) Q rest (a.put o.dst (.agg (FC f)))) : wpQuiet P ops (fun w' => ∃ p : Regrown, w' = grow (redrawn w p.d) p.os) Q (o :: rest) a := by
  have hz : (P.info? ty).map (·.size) = some (FC f).toList.length := hi
  unfold wpQuiet
  rw [if_pos hw]
  refine ⟨_, ?_, h⟩
  rintro w' ⟨p, rfl⟩
  have hb' : (grow (redrawn w p.d) p.os).rangeAt b off (FC f).toList := range_below hb (below_regrown w p.d p.os) hlt
  unfold Oper.quietAt execOp
  simp only [ho, hx, Instr.loadAt, Instr.sureAddr, Sem.run_bind, Sem.run_pure, Result.andThen_ok, run_loadVar_mid _ b off ty (FC f).toList _ hb' hu rfl hz]
  exact ⟨rfl, rfl⟩
end
end Go.Proofs.Ytpmlepgnokbpaaa

/- A region's quiet walk behind a structure: so that no step reckons ahead over operations whose guard is not met. No function of the program is named. -/
namespace Go.Proofs.Ytpmlepgnokbpaaa
open Go.RowKit
set_option linter.unusedVariables false
set_option linter.unusedSimpArgs false
structure Hq (p : Prop) : Prop where
  out : p
section
variable {P : Program} {ops : Array Oper} {C : World → Prop} {Q : Act → Prop} {rest : List Oper} {o : Oper} {a : Act} {w : World}
theorem hq_nil (h : Q a) : Hq (wpQuiet P ops C Q [] a) := ⟨h⟩
theorem hq_step (h : ∀ K : Act → Prop, (∀ a, Hq (wpQuiet P ops C Q rest a) → K a) → if Region.wanted o (yielded ops a.tmps) then o.quiet P a C K else K (a.put o.dst undef)) : Hq (wpQuiet P ops C Q (o :: rest) a) :=
  ⟨wpQuiet_step (fun K hK => h K (fun a' h' => hK a' h'.out))⟩
theorem hq_skip (hw : Region.wanted o (yielded ops a.tmps) = false) (h : Hq (wpQuiet P ops C Q rest (a.put o.dst undef))) : Hq (wpQuiet P ops C Q (o :: rest) a) :=
  ⟨by unfold wpQuiet; rw [if_neg (by rw [hw]; decide)]; exact h.out⟩
theorem hq_value (r : Value) (hw : Region.wanted o (yielded ops a.tmps) = true) (hr : ∀ w, C w → Oper.quietAt P o a C w r) (h : Hq (wpQuiet P ops C Q rest (a.put o.dst r))) : Hq (wpQuiet P ops C Q (o :: rest) a) :=
  ⟨by unfold wpQuiet; rw [if_pos hw]; exact ⟨r, hr, h.out⟩⟩
end
section
variable {P : Program} {ops : Array Oper} {rest : List Oper} {o : Oper} {a : Act} {w : World} {Q : Act → Prop}
open Go.Sort
theorem hq_load_at (hw : Region.wanted o (yielded ops a.tmps) = true) (ty e : TypeId) (x : Operand) (ho : o.op = .load ty x) (b off : Nat) (hx : a.eval x = .pointer (some ⟨b, off, none⟩)) {f : Nat → Nat} (hb : w.rangeAt b off (FC f).toList) (hlt : b < w.heap.size)
    (hu : P.underlying ty = some (.array 12 e)) (hi : (P.info? ty).map (·.size) = some 12)
    (h : Hq (wpQuiet P ops (fun w' => ∃ p : Regrown, w' = grow (redrawn w p.d) p.os) Q rest (a.put o.dst (.agg (FC f))))) : Hq (wpQuiet P ops (fun w' => ∃ p : Regrown, w' = grow (redrawn w p.d) p.os) Q (o :: rest) a) :=
  ⟨wpQuiet_load_atG hw ty e x ho b off hx hb hlt hu hi h.out⟩
theorem hq_load_celIn (hw : Region.wanted o (yielded ops a.tmps) = true) (ty : TypeId) (x : Operand) (ho : o.op = .load ty x) (b off : Nat) (hx : a.eval x = .pointer (some ⟨b, off, none⟩)) {i k : Nat → Nat} (hb : CelIn w b off i k) (hlt : b < w.heap.size) {d : TypeDesc} (hu : P.underlying ty = some d) (hd : d.isRow = true) (hi : (P.info? ty).map (·.size) = some 24)
    (h : Hq (wpQuiet P ops (fun w' => ∃ p : Regrown, w' = grow (redrawn w p.d) p.os) Q rest (a.put o.dst (.agg (CC i k))))) : Hq (wpQuiet P ops (fun w' => ∃ p : Regrown, w' = grow (redrawn w p.d) p.os) Q (o :: rest) a) := by
  refine hq_value _ hw ?_ h
  rintro w' ⟨p, rfl⟩
  have hb' : (grow (redrawn w p.d) p.os).rangeAt b off (CC i k).toList := range_below hb.range (below_regrown w p.d p.os) hlt
  unfold Oper.quietAt execOp
  simp only [ho, hx, Instr.loadAt, Instr.sureAddr, Sem.run_bind, Sem.run_pure, Result.andThen_ok, run_loadVar_mid _ b off ty (CC i k).toList d hb' hu hd hi]
  exact ⟨rfl, rfl⟩
end
end Go.Proofs.Ytpmlepgnokbpaaa

/- impl: ValidCel, Cel.moved, Cel.upon. -/
namespace Go.Proofs.Ytpmlepgnokbpaaa
set_option maxRecDepth 100000
open Go.RowKit
set_option linter.unusedVariables false
set_option linter.unusedSimpArgs false
set_option maxHeartbeats 1000000 in
theorem implValidCel_any (i k : Nat → Nat) (hi : ∀ y, i y < 65536) (hk : ∀ y, k y < 65536) (w : World) :
    Calls Try.prog 17 #[.agg (CC i k)] w fun e w' => e = .returned (.bool (okc i k)) ∧ Below w.heap.size w w' := by
  obtain ⟨i0, hi0⟩ : ∃ i, Try.prog.info? 22 = some i := ⟨_, rfl⟩
  have r := CelAt.new w 29 i k
  have h0 := (Below.refl w.heap.size w).alloc (Nat.le_refl _) (.cells (CC i k) 29)
  have cV := fun w => valid_any k hk w
  have cM := fun w => meet_any i k hi hk w
  have hq := fun w => run_eql_fr (P := Try.prog) w (meetF i k) i Try.underlying27 (by kernel_rfl) Try.underlying22 hi0 (by kernel_rfl)
  have ho := okc_impl hi hk
  clear hi0
  cases h1 : okF k with
  | false =>
    rw [h1, Bool.false_and] at ho
    rw [← ho]
    rw [h1] at cV
    clear h1 ho hq cM
    go_enter Try.func17, Try.ntmps17
    go_wp2_with fail
    have r1 := r.ink
    have r2 := r.cov
    have lt := r.lt
    generalize (w.alloc _) = w1 at *
    refine wp_region_calm (by kernel_rfl) (by kernel_rfl) ?_
    refine Hq.out ?_
    repeat (first | (refine hq_load_at (by rfl) 27 22 _ rfl _ _ rfl (by first | exact r1 | exact r2) lt Try.underlying27 (by kernel_rfl) ?_) | (refine hq_skip (by rfl) ?_) | ((refine hq_step (fun K hK => ?_)); go_simp; first | (refine hK _ ?_; clear hK K) | (apply Exists.intro; refine ⟨fun _ => ?_, hK _ ?_⟩; (exact Calls.regrown_of (cV _)); clear hK K)))
    refine hq_nil ?_
    intro w3 hb3
    go_wp2
    go_ret
    exact ⟨rfl, grown_below h0 hb3 h0.size⟩
  | true =>
    rw [h1, Bool.true_and] at ho
    rw [ho] at hq
    rw [h1] at cV
    generalize okc i k = q at *
    clear h1 ho
    go_enter Try.func17, Try.ntmps17
    go_wp2_with fail
    have r1 := r.ink
    have r2 := r.cov
    have lt := r.lt
    generalize (w.alloc _) = w1 at *
    refine wp_region_calm (by kernel_rfl) (by kernel_rfl) ?_
    refine Hq.out ?_
    repeat (first | (refine hq_load_at (by rfl) 27 22 _ rfl _ _ rfl (by first | exact r1 | exact r2) lt Try.underlying27 (by kernel_rfl) ?_) | ((refine hq_step (fun K hK => ?_)); go_simp; first | (refine hK _ ?_; clear hK K) | (apply Exists.intro; refine ⟨fun _ => ?_, hK _ ?_⟩; (first | with_reducible exact Calls.regrown_of (cV _) | with_reducible exact Calls.regrown_of (cM _)); clear hK K)))
    refine hq_nil ?_
    intro w3 hb3
    go_wp2
    go_ret
    exact ⟨rfl, grown_below h0 hb3 h0.size⟩
set_option maxHeartbeats 1000000 in
theorem implCelMoved_any (i k : Nat → Nat) (e s : Int) (oi : okF i = true) (ok : okF k = true) (e1 : -200 ≤ e) (e2 : e ≤ 200) (s1 : -200 ≤ s) (s2 : s ≤ 200) (w : World) :
    Calls Try.prog 69 #[.agg (CC i k), .int .i64 e, .int .i64 s] w fun e' w' => e' = .returned (.agg (CC (movedI i e s 12) (movedI k e s 12))) ∧ Below w.heap.size w w' := by
  have a1 := (CelAt.new w 29 i k).alloc (.cells (CC zeroF zeroF) 29)
  have r := CelAt.new (w.alloc (.cells (CC i k) 29)) 29 zeroF zeroF
  rw [World.size_alloc] at r
  have h0 := ((Below.refl w.heap.size w).alloc (Nat.le_refl _) (.cells (CC i k) 29)).alloc (by simp) (.cells (CC zeroF zeroF) 29)
  have cI := fun w' => movedW_any i e s oi e1 e2 s1 s2 w'
  have cK := fun w' => movedW_any k e s ok e1 e2 s1 s2 w'
  have hbl := build_cel (movedI i e s 12) (movedI k e s 12)
  rw [CC_zero] at r h0 a1
  go_enter Try.func69, Try.ntmps69
  go_wp2_with fail
  generalize ((w.alloc _).alloc _) = w1 at *
  have r1 := a1.ink
  have r2 := a1.cov
  have lt := a1.lt
  refine wp_region_tail 11 (by kernel_rfl) (by kernel_rfl) ?_
  simp only [List.take_succ_cons, List.take_zero, List.drop_succ_cons, List.drop_zero]
  repeat (first | (refine wpQuiet_load_at rfl 27 22 _ rfl _ _ rfl (by first | exact r1 | exact r2) lt Try.underlying27 (by kernel_rfl) ?_) | (refine wpQuiet_build2 (u := .agg (FC (movedI i e s 12))) (v := .agg (FC (movedI k e s 12))) rfl 29 0 1 _ _ rfl rfl rfl hbl ?_) | quiet_step (first | with_reducible exact Calls.regrown_of (cI _) | with_reducible exact Calls.regrown_of (cK _)))
  refine wpQuiet_nil ?_
  intro w3 hb3
  replace r := r.below hb3 r.lt
  replace h0 := grown_below h0 hb3 h0.size
  clear cI cK hb3
  go_wp2_with (refine wpList_store_cel rfl 29 _ _ rfl r rfl rfl (by kernel_rfl) ?_; intro r')
  exact bodyPost_ret_row (p := 6) (ty := 29) rfl rfl r' Try.underlying29 rfl (by kernel_rfl) rfl ⟨rfl, below_setRow h0 (by omega) _⟩
set_option maxHeartbeats 1000000 in
theorem upon_any (i k i2 k2 : Nat → Nat) (hi : ∀ y, i y < 65536) (hk : ∀ y, k y < 65536) (hi2 : ∀ y, i2 y < 65536) (hk2 : ∀ y, k2 y < 65536) (w : World) :
    Calls Try.prog 71 #[.agg (CC i k), .agg (CC i2 k2)] w fun e' w' => e' = .returned (.agg (CC (ovI i k i2) (joinF k k2))) ∧ Below w.heap.size w w' := by
  have a1 := ((CelAt.new w 29 i k).alloc (.cells (CC i2 k2) 29)).alloc (.cells (CC zeroF zeroF) 29)
  have a2 := (CelAt.new (w.alloc (.cells (CC i k) 29)) 29 i2 k2).alloc (.cells (CC zeroF zeroF) 29)
  have r := CelAt.new ((w.alloc (.cells (CC i k) 29)).alloc (.cells (CC i2 k2) 29)) 29 zeroF zeroF
  rw [World.size_alloc] at a2
  rw [World.size_alloc, World.size_alloc] at r
  have h0 := (((Below.refl w.heap.size w).alloc (Nat.le_refl _) (.cells (CC i k) 29)).alloc (by simp) (.cells (CC i2 k2) 29)).alloc (by simp; omega) (.cells (CC zeroF zeroF) 29)
  have cL := fun w' => less_any i2 k hi2 hk w'
  have cI := fun w' => join_any i (lessF i2 k) hi (lessF_lt hi2) w'
  have cK := fun w' => join_any k k2 hk hk2 w'
  have hbl := build_cel (ovI i k i2) (joinF k k2)
  have ho : joinF i (lessF i2 k) = ovI i k i2 := rfl
  rw [ho] at cI
  rw [CC_zero] at r h0 a1 a2
  go_enter Try.func71, Try.ntmps71
  go_wp2_with fail
  generalize (((w.alloc _).alloc _).alloc _) = w1 at *
  have r1 := a1.ink
  have r2 := a1.cov
  have r3 := a2.ink
  have r4 := a2.cov
  have lt := a1.lt
  have lt2 := a2.lt
  clear a1 a2 ho
  refine wp_region_tail 14 (by kernel_rfl) (by kernel_rfl) ?_
  simp only [List.take_succ_cons, List.take_zero, List.drop_succ_cons, List.drop_zero]
  repeat (first | (refine wpQuiet_load_at rfl 27 22 _ rfl _ _ rfl (by first | with_reducible exact r1 | with_reducible exact r2 | with_reducible exact r3 | with_reducible exact r4) (by first | exact lt | exact lt2) Try.underlying27 (by kernel_rfl) ?_) | (refine wpQuiet_build2 (u := .agg (FC (ovI i k i2))) (v := .agg (FC (joinF k k2))) rfl 29 0 1 _ _ rfl rfl rfl hbl ?_) | quiet_step (first | with_reducible exact Calls.regrown_of (cL _) | with_reducible exact Calls.regrown_of (cI _) | with_reducible exact Calls.regrown_of (cK _)))
  refine wpQuiet_nil ?_
  intro w3 hb3
  replace r := r.below hb3 r.lt
  replace h0 := grown_below h0 hb3 h0.size
  clear cI cK cL hb3
  go_wp2_with (refine wpList_store_cel rfl 29 _ _ rfl r rfl rfl (by kernel_rfl) ?_; intro r')
  exact bodyPost_ret_row (p := 4) (ty := 29) rfl rfl r' Try.underlying29 rfl (by kernel_rfl) rfl ⟨rfl, below_setRow h0 (by omega) _⟩
end Go.Proofs.Ytpmlepgnokbpaaa
