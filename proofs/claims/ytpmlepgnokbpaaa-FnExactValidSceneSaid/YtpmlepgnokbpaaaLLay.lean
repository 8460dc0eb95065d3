/- The laws' own helpers over layers: toLayer, fillerCel, fillerLayer, eqLayer. -/
import Derived.Test.YtpmlepgnokbpaaaLayM
import Derived.Test.YtpmlepgnokbpaaaLCel
import Derived.Test.YtpmlepgnokbpaaaLBook
namespace Go.Proofs.Ytpmlepgnokbpaaa
set_option maxRecDepth 100000
open Go.RowKit
set_option linter.unusedVariables false
set_option linter.unusedSimpArgs false
def fillLy : Ly := ⟨fillF, fillF, -101, -101, -101⟩
theorem LayAt.other {w : World} {g : Nat} {t : TypeId} {l : Ly} (h : LayAt w g t l) {a : Addr} (v : Value) (hn : g ≠ a.block) : LayAt (w.setCell a v) g t l := Row.other h v hn
theorem build_cel1 (w : World) : (Instr.build 29 #[(0, .agg (FC fillF)), (1, .agg (FC fillF))]).run Try.prog w = .ok (.agg (CC fillF fillF)) w := build_cel fillF fillF w
theorem build_lay (i k : Nat → Nat) (e s h : Int) (w : World) : (Instr.build 86 #[(0, .agg (CC i k)), (1, .int .i8 e), (2, .int .i8 s), (3, .int .i8 h)]).run Try.prog w = .ok (.agg (LC ⟨i, k, e, s, h⟩)) w := by kernel_rfl
theorem wpList_build4 {P : Program} {ops : Array Oper} {rest : List Oper} {o : Oper} {a : Act} {w : World} {Q : Exit → Act → World → Prop} (hgd : o.guard = none) (T : TypeId) (m n p q : Nat) (x y x2 y2 : Operand) (ho : o.op = .build T #[(m, x), (n, y), (p, x2), (q, y2)]) {u v u2 v2 r : Value} (hx : a.eval x = u) (hy : a.eval y = v) (hx2 : a.eval x2 = u2) (hy2 : a.eval y2 = v2)
    (hr : ∀ w, (Instr.build T #[(m, u), (n, v), (p, u2), (q, v2)]).run P w = .ok r w) (h : wpList P ops Q rest (a.put o.dst r) w) : wpList P ops Q (o :: rest) a w :=
  wpList_plain hgd fun K hK => by
    unfold Oper.wp execOp
    simp only [ho, List.map_toArray, List.map_cons, List.map_nil, hx, hy, hx2, hy2, Sem.run_bind, hr, Result.andThen_ok, Sem.run_pure]
    exact hK _ _ h
set_option maxHeartbeats 1000000 in
theorem fillerCel_any (w : World) : Calls Try.prog 95 #[] w fun e w' => e = .returned (.agg (CC fillF fillF)) ∧ Below w.heap.size w w' := by
  have r := CelAt.new w 29 zeroF zeroF
  have h0 := (Below.refl w.heap.size w).alloc (Nat.le_refl _) (.cells (CC zeroF zeroF) 29)
  have hbl := build_cel1
  rw [CC_zero] at r h0
  go_enter Try.func95, Try.ntmps95
  go_wp2_with (first | (refine wpList_build2 (u := .agg (FC fillF)) (v := .agg (FC fillF)) rfl 29 0 1 _ _ rfl rfl rfl hbl ?_) | (refine wpList_store_cel (i := fillF) (k := fillF) rfl 29 _ _ rfl r rfl rfl (by kernel_rfl) ?_; intro r'))
  exact bodyPost_ret_row (p := 0) (ty := 29) rfl rfl r' Try.underlying29 rfl (by kernel_rfl) rfl ⟨rfl, below_setRow h0 (Nat.le_refl _) _⟩
set_option maxHeartbeats 1000000 in
theorem fillerLay_any (w : World) : Calls Try.prog 59 #[] w fun e w' => e = .returned (.agg (LC fillLy)) ∧ Below w.heap.size w w' := by
  have r := LayAt.new w 86 zeroLy
  have h0 := (Below.refl w.heap.size w).alloc (Nat.le_refl _) (.cells (LC zeroLy) 86)
  have hbl := build_lay fillF fillF (-101) (-101) (-101)
  rw [LC_zero] at r h0
  go_enter Try.func59, Try.ntmps59
  go_wp2_with (first | (go_at_call 95; refine (fillerCel_any _).mono ?_; rintro e w1 ⟨rfl, hb⟩; replace r := r.below hb r.lt; replace h0 := grown_below h0 hb h0.size; clear hb) | (refine wpList_build4 (u := .agg (CC fillF fillF)) (v := .int .i8 (-101)) (u2 := .int .i8 (-101)) (v2 := .int .i8 (-101)) rfl 86 0 1 2 3 _ _ _ _ rfl rfl rfl rfl rfl hbl ?_) | (refine wpList_store_lay (l := fillLy) rfl 86 _ _ rfl r rfl rfl (by kernel_rfl) ?_; intro r'))
  exact bodyPost_ret_row (p := 0) (ty := 86) rfl rfl r' Try.underlying86 rfl (by kernel_rfl) rfl ⟨rfl, below_setRow h0 (Nat.le_refl _) _⟩
set_option maxHeartbeats 1000000 in
theorem toLayer_any (l : Ly) (w : World) : Calls Try.prog 58 #[.agg (LC l)] w fun e w' => e = .returned (.agg (LC l)) ∧ Below w.heap.size w w' := by
  have a1 := ((LayAt.new w 89 l).alloc (.cells (LC zeroLy) 86)).alloc (.cells (LC zeroLy) 86)
  have a2 := (LayAt.new (w.alloc (.cells (LC l) 89)) 86 zeroLy).alloc (.cells (LC zeroLy) 86)
  have a3 := LayAt.new ((w.alloc (.cells (LC l) 89)).alloc (.cells (LC zeroLy) 86)) 86 zeroLy
  rw [World.size_alloc] at a2
  rw [World.size_alloc, World.size_alloc] at a3
  have h0 := (((Below.refl w.heap.size w).alloc (Nat.le_refl _) (.cells (LC l) 89)).alloc (by simp) (.cells (LC zeroLy) 86)).alloc (by simp; omega) (.cells (LC zeroLy) 86)
  rw [LC_zero] at a1 a2 a3 h0
  go_enter Try.func58, Try.ntmps58
  go_wp2_with (first
    | (refine wpList_load_celIn rfl 25 _ rfl _ _ rfl (by with_reducible exact a1.cel) Try.underlying25 rfl (by kernel_rfl) ?_)
    | (go_at_call 16; refine (toCel_any _ _ _).mono ?_; rintro e w2 ⟨rfl, hb⟩; replace a1 := a1.below hb a1.lt; replace a2 := a2.below hb a2.lt; replace a3 := a3.below hb a3.lt; replace h0 := grown_below h0 hb h0.size; clear hb)
    | (refine wpList_store_layCel rfl 29 _ _ rfl (by with_reducible exact a3) rfl rfl (by kernel_rfl) ?_; intro a3' hw; replace a1 := a1.wrote hw (by omega); replace a2 := a2.wrote hw (by omega); replace h0 := hw.below h0 (by omega) h0.size; clear a3; have a3 := a3'; clear hw a3'; generalize World.setCells _ _ _ _ = w3 at *; have c1 := a1.e; have d1 := a3.e; have f1 := a3.free 24; replace a1 := a1.other (a := ⟨w.heap.size + 1 + 1, 24, none⟩) (.int .i8 l.e) (by show w.heap.size ≠ w.heap.size + 1 + 1; omega); replace a2 := a2.other (a := ⟨w.heap.size + 1 + 1, 24, none⟩) (.int .i8 l.e) (by show w.heap.size + 1 ≠ w.heap.size + 1 + 1; omega); replace a3 := a3.setE l.e; have c2 := a1.s; have d2 := a3.s; have f2 := a3.free 25; replace a1 := a1.other (a := ⟨w.heap.size + 1 + 1, 25, none⟩) (.int .i8 l.s) (by show w.heap.size ≠ w.heap.size + 1 + 1; omega); replace a2 := a2.other (a := ⟨w.heap.size + 1 + 1, 25, none⟩) (.int .i8 l.s) (by show w.heap.size + 1 ≠ w.heap.size + 1 + 1; omega); replace a3 := a3.setS l.s; have c3 := a1.h; have d3 := a3.h; have f3 := a3.free 26; replace a2 := a2.other (a := ⟨w.heap.size + 1 + 1, 26, none⟩) (.int .i8 l.h) (by show w.heap.size + 1 ≠ w.heap.size + 1 + 1; omega); have a3' : LayAt _ (w.heap.size + 1 + 1) 86 l := a3.setH l.h; clear a3; have a3 := a3'; clear a3'; replace h0 := h0.setCell (p := ⟨w.heap.size + 1 + 1, 24, none⟩) (by show w.heap.size ≤ w.heap.size + 1 + 1; omega) (.int .i8 l.e); replace h0 := h0.setCell (p := ⟨w.heap.size + 1 + 1, 25, none⟩) (by show w.heap.size ≤ w.heap.size + 1 + 1; omega) (.int .i8 l.s); replace h0 := h0.setCell (p := ⟨w.heap.size + 1 + 1, 26, none⟩) (by show w.heap.size ≤ w.heap.size + 1 + 1; omega) (.int .i8 l.h))
    | (refine wpList_load_lay (l := l) rfl 86 _ rfl rfl (by with_reducible exact a3) Try.underlying86 rfl (by kernel_rfl) ?_)
    | (refine wpList_store_lay (l := l) rfl 86 _ _ rfl (by with_reducible exact a2) rfl rfl (by kernel_rfl) ?_; intro a2'))
  exact bodyPost_ret_row (p := 2) (ty := 86) rfl rfl a2' Try.underlying86 rfl (by kernel_rfl) rfl ⟨rfl, below_setRow h0 (by omega) _⟩
set_option maxHeartbeats 1000000 in
theorem eqLayer_same (l : Ly) (w : World) : Calls Try.prog 97 #[.agg (LC l), .agg (LC l)] w fun e w' => e = .returned (.bool true) ∧ Below w.heap.size w w' := by
  have a1 := (LayAt.new w 86 l).alloc (.cells (LC l) 86)
  have a2 := LayAt.new (w.alloc (.cells (LC l) 86)) 86 l
  rw [World.size_alloc] at a2
  have h0 := ((Below.refl w.heap.size w).alloc (Nat.le_refl _) (.cells (LC l) 86)).alloc (by simp) (.cells (LC l) 86)
  have e1 : (l.e != l.e) = false := by simp
  have e2 : (l.s != l.s) = false := by simp
  have e3 : (l.h != l.h) = false := by simp
  go_enter Try.func97, Try.ntmps97
  go_wp2_with (first
    | (refine wpList_load_celIn rfl 29 _ rfl _ _ rfl (by first | with_reducible exact a1.cel | with_reducible exact a2.cel) Try.underlying29 rfl (by kernel_rfl) ?_)
    | (go_at_call 28; refine (eqCel_same _ _ _).mono ?_; rintro e w2 ⟨rfl, hb⟩; replace a1 := a1.below hb a1.lt; replace a2 := a2.below hb a2.lt; replace h0 := grown_below h0 hb h0.size; clear hb; have c1 := a1.e; have c2 := a2.e; have c3 := a1.s; have c4 := a2.s; have c5 := a1.h; have c6 := a2.h))
  go_ret
  exact ⟨rfl, h0⟩
end Go.Proofs.Ytpmlepgnokbpaaa
