/- SAME STEPS: spec, the heads unlike. -/
import Derived.Test.YtjbjbdkmomkclaaSmS
import Derived.Test.YtjbjbdkmomkclaaHq
import Derived.Test.YtjbjbdkmomkclaaCellQ
namespace Go.Proofs.Ytjbjbdkmomkclaa
set_option maxRecDepth 100000
open Go.RowKit
set_option linter.unusedVariables false
set_option linter.unusedSimpArgs false
theorem hq_skipK {P : Program} {ops : Array Oper} {C : World → Prop} {Q : Act → Prop} {rest : List Oper} {o : Oper} {a : Act} (hw : Region.wanted o (yielded ops a.tmps) = false) (h : ∀ K : Act → Prop, (∀ a, Hq (wpQuiet P ops C Q rest a) → K a) → K (a.put o.dst undef)) : Hq (wpQuiet P ops C Q (o :: rest) a) :=
  hq_skip hw (h (fun a => Hq (wpQuiet P ops C Q rest a)) (fun _ h => h))
theorem st_cells {w : World} {b o : Nat} {h : Hd} {z : Value} (r : w.rangeAt b o (StC h z).toList) : w.cell? ⟨b, o, none⟩ = some (.int .i8 h.1) ∧ w.cell? ⟨b, o + 1, none⟩ = some (.int .i8 h.2.1) ∧ w.cell? ⟨b, o + 2, none⟩ = some (.int .i8 h.2.2.1) ∧ w.cell? ⟨b, o + 3, none⟩ = some (.int .i8 h.2.2.2) ∧ w.cell? ⟨b, o + 4, none⟩ = some z :=
  ⟨st_cell0 r, st_cell1 r, st_cell2 r, st_cell3 r, st_cell4 r⟩
set_option maxHeartbeats 4000000 in
theorem sameStep0 (b1 o1 b2 o2 : Nat) (a0 a1 a2 a3 z0 z1 z2 z3 : Int) (A B : Option Addr) (c d : Nat) (L M : List (Int × Int)) (w : World) (r1 : w.rangeAt b1 o1 (StC (a0, a1, a2, a3) (.slice A L.length c)).toList) (r2 : w.rangeAt b2 o2 (StC (z0, z1, z2, z3) (.slice B M.length d)).toList)  (h0 : ¬ a0 = z0) :
    Calls Try.prog 49 #[.pointer (some ⟨b1, o1, none⟩), .pointer (some ⟨b2, o2, none⟩)] w fun e w' => e = .returned (.bool (eqSB ((a0, a1, a2, a3), L) ((z0, z1, z2, z3), M))) ∧ Below w.heap.size w w' := by
  obtain ⟨d1, d2, d3, d4, d5⟩ := st_cells r1
  obtain ⟨f1, f2, f3, f4, f5⟩ := st_cells r2
  simp only at d1 d2 d3 d4 f1 f2 f3 f4
  replace d1 := cell_q d1
  replace d2 := cell_q d2
  replace d3 := cell_q d3
  replace d4 := cell_q d4
  replace d5 := cell_q d5
  replace f1 := cell_q f1
  replace f2 := cell_q f2
  replace f3 := cell_q f3
  replace f4 := cell_q f4
  replace f5 := cell_q f5
  clear d2 d3 d4 d5 f2 f3 f4 f5 r1 r2
  have e0 : (a0 != z0) = true := by simp [h0]
  have hv : eqSB ((a0, a1, a2, a3), L) ((z0, z1, z2, z3), M) = false := by simp [eqSB, h0]
  clear h0
  rw [hv]
  clear hv
  go_enter Try.func49, Try.ntmps49
  go_wp2_with fail
  refine wp_region_calm (by kernel_rfl) (by kernel_rfl) ?_
  refine Hq.out ?_
  repeat (first | (refine hq_skipK (by simp only [Region.wanted, yielded]; rfl) (fun K hK => ?_); go_simp; refine hK _ ?_; clear hK K) | ((refine hq_step (fun K hK => ?_)); go_simp; first | (refine hK _ ?_; clear hK K) | (apply Exists.intro; refine ⟨fun _ => ?_, hK _ ?_⟩; (fail); clear hK K)))
  refine hq_nil ?_
  intro w3 hb3
  clear d1 f1
  go_wp2
  go_ret
  exact ⟨rfl, hb3⟩
set_option maxHeartbeats 4000000 in
theorem sameStep1 (b1 o1 b2 o2 : Nat) (a0 a1 a2 a3 z0 z1 z2 z3 : Int) (A B : Option Addr) (c d : Nat) (L M : List (Int × Int)) (w : World) (r1 : w.rangeAt b1 o1 (StC (a0, a1, a2, a3) (.slice A L.length c)).toList) (r2 : w.rangeAt b2 o2 (StC (z0, z1, z2, z3) (.slice B M.length d)).toList) (h0 : a0 = z0) (h1 : ¬ a1 = z1) :
    Calls Try.prog 49 #[.pointer (some ⟨b1, o1, none⟩), .pointer (some ⟨b2, o2, none⟩)] w fun e w' => e = .returned (.bool (eqSB ((a0, a1, a2, a3), L) ((z0, z1, z2, z3), M))) ∧ Below w.heap.size w w' := by
  obtain ⟨d1, d2, d3, d4, d5⟩ := st_cells r1
  obtain ⟨f1, f2, f3, f4, f5⟩ := st_cells r2
  simp only at d1 d2 d3 d4 f1 f2 f3 f4
  replace d1 := cell_q d1
  replace d2 := cell_q d2
  replace d3 := cell_q d3
  replace d4 := cell_q d4
  replace d5 := cell_q d5
  replace f1 := cell_q f1
  replace f2 := cell_q f2
  replace f3 := cell_q f3
  replace f4 := cell_q f4
  replace f5 := cell_q f5
  clear d3 d4 d5 f3 f4 f5 r1 r2
  have e0 : (a0 != z0) = false := by simp [h0]
  have e1 : (a1 != z1) = true := by simp [h1]
  have hv : eqSB ((a0, a1, a2, a3), L) ((z0, z1, z2, z3), M) = false := by simp [eqSB, h1]
  clear h0 h1
  rw [hv]
  clear hv
  go_enter Try.func49, Try.ntmps49
  go_wp2_with fail
  refine wp_region_calm (by kernel_rfl) (by kernel_rfl) ?_
  refine Hq.out ?_
  repeat (first | (refine hq_skipK (by simp only [Region.wanted, yielded]; rfl) (fun K hK => ?_); go_simp; refine hK _ ?_; clear hK K) | ((refine hq_step (fun K hK => ?_)); go_simp; first | (refine hK _ ?_; clear hK K) | (apply Exists.intro; refine ⟨fun _ => ?_, hK _ ?_⟩; (fail); clear hK K)))
  refine hq_nil ?_
  intro w3 hb3
  clear d1 d2 f1 f2
  go_wp2
  go_ret
  exact ⟨rfl, hb3⟩
set_option maxHeartbeats 4000000 in
theorem sameStep2 (b1 o1 b2 o2 : Nat) (a0 a1 a2 a3 z0 z1 z2 z3 : Int) (A B : Option Addr) (c d : Nat) (L M : List (Int × Int)) (w : World) (r1 : w.rangeAt b1 o1 (StC (a0, a1, a2, a3) (.slice A L.length c)).toList) (r2 : w.rangeAt b2 o2 (StC (z0, z1, z2, z3) (.slice B M.length d)).toList) (h0 : a0 = z0) (h1 : a1 = z1) (h2 : ¬ a2 = z2) :
    Calls Try.prog 49 #[.pointer (some ⟨b1, o1, none⟩), .pointer (some ⟨b2, o2, none⟩)] w fun e w' => e = .returned (.bool (eqSB ((a0, a1, a2, a3), L) ((z0, z1, z2, z3), M))) ∧ Below w.heap.size w w' := by
  obtain ⟨d1, d2, d3, d4, d5⟩ := st_cells r1
  obtain ⟨f1, f2, f3, f4, f5⟩ := st_cells r2
  simp only at d1 d2 d3 d4 f1 f2 f3 f4
  replace d1 := cell_q d1
  replace d2 := cell_q d2
  replace d3 := cell_q d3
  replace d4 := cell_q d4
  replace d5 := cell_q d5
  replace f1 := cell_q f1
  replace f2 := cell_q f2
  replace f3 := cell_q f3
  replace f4 := cell_q f4
  replace f5 := cell_q f5
  clear d4 d5 f4 f5 r1 r2
  have e0 : (a0 != z0) = false := by simp [h0]
  have e1 : (a1 != z1) = false := by simp [h1]
  have e2 : (a2 != z2) = true := by simp [h2]
  have hv : eqSB ((a0, a1, a2, a3), L) ((z0, z1, z2, z3), M) = false := by simp [eqSB, h2]
  clear h0 h1 h2
  rw [hv]
  clear hv
  go_enter Try.func49, Try.ntmps49
  go_wp2_with fail
  refine wp_region_calm (by kernel_rfl) (by kernel_rfl) ?_
  refine Hq.out ?_
  repeat (first | (refine hq_skipK (by simp only [Region.wanted, yielded]; rfl) (fun K hK => ?_); go_simp; refine hK _ ?_; clear hK K) | ((refine hq_step (fun K hK => ?_)); go_simp; first | (refine hK _ ?_; clear hK K) | (apply Exists.intro; refine ⟨fun _ => ?_, hK _ ?_⟩; (fail); clear hK K)))
  refine hq_nil ?_
  intro w3 hb3
  clear d1 d2 d3 f1 f2 f3
  go_wp2
  go_ret
  exact ⟨rfl, hb3⟩
end Go.Proofs.Ytjbjbdkmomkclaa
