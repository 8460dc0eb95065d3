/- SAME STEPS: spec, the rows. -/
import Derived.Test.YtjbjbdkmomkclaaSmS
import Derived.Test.YtjbjbdkmomkclaaHq
import Derived.Test.YtjbjbdkmomkclaaCellQ
namespace Go.Proofs.Ytjbjbdkmomkclaa
set_option maxRecDepth 100000
open Go.RowKit
set_option linter.unusedVariables false
set_option linter.unusedSimpArgs false
theorem st_cells5 {w : World} {b o : Nat} {h : Hd} {z : Value} (r : w.rangeAt b o (StC h z).toList) : w.cell? ⟨b, o, none⟩ = some (.int .i8 h.1) ∧ w.cell? ⟨b, o + 1, none⟩ = some (.int .i8 h.2.1) ∧ w.cell? ⟨b, o + 2, none⟩ = some (.int .i8 h.2.2.1) ∧ w.cell? ⟨b, o + 3, none⟩ = some (.int .i8 h.2.2.2) ∧ w.cell? ⟨b, o + 4, none⟩ = some z :=
  ⟨st_cell0 r, st_cell1 r, st_cell2 r, st_cell3 r, st_cell4 r⟩
set_option maxHeartbeats 8000000 in
theorem sameStepAll (b1 o1 b2 o2 : Nat) (a0 a1 a2 a3 z0 z1 z2 z3 : Int) (A B : Option Addr) (c d : Nat) (L M : List (Int × Int)) (w : World) (r1 : w.rangeAt b1 o1 (StC (a0, a1, a2, a3) (.slice A L.length c)).toList) (r2 : w.rangeAt b2 o2 (StC (z0, z1, z2, z3) (.slice B M.length d)).toList) (lb1 : b1 < w.heap.size) (lb2 : b2 < w.heap.size) (h0 : a0 = z0) (h1 : a1 = z1) (h2 : a2 = z2) (h3 : a3 = z3) (hl : L.length = M.length) (y1 : L.length ≤ c) (y2 : c ≤ maxLen) (y3 : M.length ≤ d) (y4 : d ≤ maxLen)
    (hA : 0 < L.length → ∃ b o, A = some ⟨b, o, none⟩ ∧ b < w.heap.size ∧ w.rangeAt b o (eCg.cells L)) (hB : 0 < M.length → ∃ b o, B = some ⟨b, o, none⟩ ∧ b < w.heap.size ∧ w.rangeAt b o (eCg.cells M)) :
    Calls Try.prog 49 #[.pointer (some ⟨b1, o1, none⟩), .pointer (some ⟨b2, o2, none⟩)] w fun e w' => e = .returned (.bool (eqSB ((a0, a1, a2, a3), L) ((z0, z1, z2, z3), M))) ∧ Below w.heap.size w w' := by
  unfold maxLen at y2 y4
  obtain ⟨d1, d2, d3, d4, d5⟩ := st_cells5 r1
  obtain ⟨f1, f2, f3, f4, f5⟩ := st_cells5 r2
  simp only at d1 d2 d3 d4 f1 f2 f3 f4
  replace d1 := cell_q d1
  replace d2 := cell_q d2
  replace d3 := cell_q d3
  replace d4 := cell_q d4
  replace d5 := cell_q d5
  replace f1 := cell_q f1
  replace f2 := cell_q f2
  replace f3 := cell_q f3
  replace f4 := cell_q f4
  replace f5 := cell_q f5
  have e0 : (a0 != z0) = false := by simp [h0]
  have e1 : (a1 != z1) = false := by simp [h1]
  have e2 : (a2 != z2) = false := by simp [h2]
  have e3 : (a3 != z3) = false := by simp [h3]
  have e4 : ((L.length : Int) != (M.length : Int)) = false := by simp [hl]
  have hv : eqSB ((a0, a1, a2, a3), L) ((z0, z1, z2, z3), M) = decide (L = M) := by simp [eqSB, h0, h1, h2, h3]
  have HL := Lib.hid hl
  clear h0 h1 h2 h3 hl
  rw [hv]
  clear hv
  go_enter Try.func49, Try.ntmps49
  go_wp2_with fail
  refine wp_region_calm (by kernel_rfl) (by kernel_rfl) ?_
  refine Hq.out ?_
  repeat (first | (refine hq_skip (by simp only [Region.wanted, yielded]; rfl) ?_) | ((refine hq_step (fun K hK => ?_)); go_simp; first | (refine hK _ ?_; clear hK K) | (apply Exists.intro; refine ⟨fun _ => ?_, hK _ ?_⟩; (fail); clear hK K)))
  refine hq_nil ?_
  intro w3 hb3
  clear d1 d2 d3 d4 d5 f1 f2 f3 f4 f5 e0 e1 e2 e3 e4
  have m1 := range_below r1 hb3 lb1
  have m2 := range_below r2 hb3 lb2
  have HH := Lib.hid (show Below w.heap.size w w3 from hb3)
  go_wp2
  go_loopw [5] (fun i wr => ∃ k : Nat, k ≤ L.length ∧ i = .int .i64 k ∧ (∀ j, j < k → cgAt L j = cgAt M j) ∧ Below w.heap.size w wr) (fun i _ => L.length - (intOf i).toNat)
  case atStart => exact ⟨0, by omega, rfl, by omega, HH.out⟩
  case round =>
    clear m1 m2 hb3 HH
    obtain ⟨k, hk, rfl, he, hb⟩ := hrel
    have HE := Lib.hid he
    clear he
    have t4 := (st_cells5 (range_below r1 hb lb1)).2.2.2.2
    have s4 := (st_cells5 (range_below r2 hb lb2)).2.2.2.2
    by_cases hlt : k < L.length
    · have hltM : k < M.length := by rw [← HL.out]; exact hlt
      obtain ⟨p1, q1, rfl, hp1, x1⟩ := hA (by omega)
      obtain ⟨p2, q2, rfl, hp2, x2⟩ := hB (by omega)
      have g1 := range_below (range_part x1 (cgAt_get hlt)) hb hp1
      have g2 := range_below (range_part x2 (cgAt_get hltM)) hb hp2
      have l1 : p1 < wr.heap.size := Nat.lt_of_lt_of_le hp1 hb.size
      have l2 : p2 < wr.heap.size := Nat.lt_of_lt_of_le hp2 hb.size
      rw [eCg_n] at g1 g2
      clear hA hB x1 x2
      have t5 := cell_q t4
      have s5 := cell_q s4
      have hq := fun w => run_neq_cg w (cgAt L k) (cgAt M k)
      generalize hE : decide (cgAt L k = cgAt M k) = q at *
      go_wp2_with fail
      refine wp_region_calm (by kernel_rfl) (by kernel_rfl) ?_
      repeat (first | (first | refine wpQuiet_load_el (E := eCg) rfl 113 _ rfl _ _ rfl (cgAt L k) (CgC (cgAt L k)) rfl g1 l1 Try.underlying113 rfl (by kernel_rfl) ?_ | refine wpQuiet_load_el (E := eCg) rfl 113 _ rfl _ _ rfl (cgAt M k) (CgC (cgAt M k)) rfl g2 l2 Try.underlying113 rfl (by kernel_rfl) ?_) | quiet_step (fail))
      refine wpQuiet_nil ?_
      intro w4 hb4
      replace hb := grown_below hb hb4 hb.size
      clear g1 g2 hb4 t4 s4 t5 s5
      have HQ := Lib.hid hE
      clear hE
      cases q with
      | true =>
        go_wp2
        go_roundw
        case rel =>
          go_light
          refine ⟨k + 1, by omega, by go_num, ?_, hb⟩
          intro j hj
          rcases Nat.lt_succ_iff_lt_or_eq.1 hj with h | rfl
          · exact HE.out j h
          · exact of_decide_eq_true HQ.out
        case measure => simp [intOf]; omega
      | false =>
        go_wp2
        go_ret
        exact ⟨ret_bool (by rw [decide_eq_false (fun e => of_decide_eq_false HQ.out (by rw [e]))]), hb⟩
    · go_wp2
      go_ret
      have hkl : k = L.length := by omega
      subst hkl
      exact ⟨ret_bool (by rw [decide_eq_true (eq_of_getD (z := zeroCg) HL.out HE.out)]), hb⟩
end Go.Proofs.Ytjbjbdkmomkclaa
