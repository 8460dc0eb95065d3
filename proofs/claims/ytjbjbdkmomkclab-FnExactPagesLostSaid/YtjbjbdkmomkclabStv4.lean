/- STEPS: when steps are valid. impl: Step.hasBase, ValidSteps. -/
import Derived.Test.YtjbjbdkmomkclabStv3
import Derived.Test.YtjbjbdkmomkclabIMoved
namespace Go.Proofs.Ytjbjbdkmomkclab
set_option maxRecDepth 100000
open Go.RowKit
set_option linter.unusedVariables false
set_option linter.unusedSimpArgs false
theorem okBase_0 {p e s i : Int} : okBase (0, p, e, s) i = (p == 0 && (e == 0 && s == 0)) := rfl
theorem okBase_1 {p e s i : Int} : okBase (1, p, e, s) i = (inB p 0 (i - 1) && (e == 0 && s == 0)) := rfl
theorem okBase_2 {p e s i : Int} : okBase (2, p, e, s) i = (inB p 0 (i - 1) && !(e == 0 && s == 0) && (inB e (-12) 12 && inB s (-12) 12)) := rfl
theorem okBase_other {q p e s i : Int} (h0 : q ≠ 0) (h1 : q ≠ 1) (h2 : q ≠ 2) : okBase (q, p, e, s) i = false := by
  unfold okBase
  rw [if_neg h0, if_neg h1, if_neg h2]
set_option maxHeartbeats 4000000 in
theorem hasBase_any (h : Hd) (A : Option Addr) (n c : Nat) (i : Int) (w : World) (hh : ltHd h) (hi : 0 ≤ i ∧ i ≤ 1000000000000) :
    Calls Try.prog 96 #[.agg (StC h (.slice A n c)), .int .i64 i] w fun e w' => e = .returned (.bool (okBase h i)) ∧ Below w.heap.size w w' := by
  obtain ⟨q, p, e, s⟩ := h
  have hq := hh.1
  have hp := hh.2.1
  have he := hh.2.2.1
  have hs := hh.2.2.2
  simp only at hq hp he hs
  have h0 := (Below.refl w.heap.size w).alloc (Nat.le_refl _) (.cells (StC (q, p, e, s) (.slice A n c)) 85)
  have wp : IntKind.i64.wrap p = p := IntWalk.i64_in _ (by omega)
  have we : IntKind.i64.wrap e = e := IntWalk.i64_in _ (by omega)
  have ws : IntKind.i64.wrap s = s := IntWalk.i64_in _ (by omega)
  have c1 := fun w => isMove_any e w
  have c2 := fun w => isMove_any s w
  have hI : inB p 0 (i - 1) = (decide (0 ≤ p) && decide (p < i)) := by
    unfold inB
    by_cases a : 0 ≤ p <;> by_cases b : p < i <;> simp [a, b] <;> omega
  unfold StC at h0 ⊢
  clear hh
  by_cases q0 : q = 0
  · subst q0
    rw [okBase_0]
    clear hI c1 c2
    cases hP : (p == 0) <;> cases hE : (e == 0) <;> cases hS : (s == 0) <;> by_cases hA : 0 ≤ p <;> by_cases hB : p < i
    all_goals first | (exfalso; have : p = 0 := by simpa using hP
                       omega) | (exfalso; omega) | skip
    all_goals
      go_enter Try.func96, Try.ntmps96
      go_wp2
      go_ret
      exact ⟨rfl, h0⟩
  · by_cases q1 : q = 1
    · subst q1
      rw [okBase_1, hI]
      clear hI c1 c2 q0
      cases hE : (e == 0) <;> cases hS : (s == 0) <;> by_cases hA : 0 ≤ p <;> by_cases hB : p < i <;> simp only [hA, hB, decide_true, decide_false]
      all_goals first | (exfalso; omega) | skip
      all_goals
        go_enter Try.func96, Try.ntmps96
        go_wp2
        go_ret
        exact ⟨rfl, h0⟩
    · by_cases q2 : q = 2
      · subst q2
        rw [okBase_2, hI]
        clear hI q0 q1
        cases hE : (e == 0) <;> cases hS : (s == 0) <;> by_cases hA : 0 ≤ p <;> by_cases hB : p < i <;> simp only [hA, hB, decide_true, decide_false]
        all_goals first | (exfalso; omega) | skip
        all_goals
          cases hx : inB e (-12) 12 <;> cases hy : inB s (-12) 12 <;> (rw [hx] at c1; rw [hy] at c2)
        all_goals
          go_enter Try.func96, Try.ntmps96
          go_wp2_with (go_at_call 119; first | (refine (c1 _).mono ?_; rintro e' w' ⟨rfl, rfl⟩; clear c1) | (refine (c2 _).mono ?_; rintro e' w' ⟨rfl, rfl⟩; clear c2))
          go_ret
          exact ⟨rfl, h0⟩
      · rw [okBase_other q0 q1 q2]
        have d0 : (q == 0) = false := by simp; exact q0
        have d1 : (q == 1) = false := by simp; exact q1
        have d2 : (q == 2) = false := by simp; exact q2
        clear hI c1 c2 q0 q1 q2
        cases hE : (e == 0) <;> cases hS : (s == 0) <;> by_cases hA : 0 ≤ p <;> by_cases hB : p < i
        all_goals first | (exfalso; omega) | skip
        all_goals
          go_enter Try.func96, Try.ntmps96
          go_wp2
          go_ret
          exact ⟨rfl, h0⟩
set_option maxHeartbeats 2000000 in
theorem implValidSteps_any (v : Value) (L : List Stp) (w : World) (hL : ltSt L) (hn : L.length ≤ 1000000) (h : StsAt w w.heap.size v L) :
    Calls Try.prog 58 #[v] w fun e w' => e = .returned (.bool (okSts L)) ∧ Below w.heap.size w w' := by
  obtain ⟨A, c, rfl, h1, h2, hA⟩ := h
  unfold maxLen at h2
  by_cases h40 : 40 < L.length
  · have HF := Lib.hid (okSts_false_len h40)
    clear hA
    go_enter Try.func58, Try.ntmps58
    go_wp2
    go_ret
    exact ⟨ret_bool HF.out.symm, Below.refl _ _⟩
  · go_enter Try.func58, Try.ntmps58
    go_wp2
    go_loopw [10] (fun i wr => ∃ k : Nat, k ≤ L.length ∧ i = .int .i64 k ∧ (∀ j, j < k → okStpB (tAt L j) (j : Int) = true) ∧ Below w.heap.size w wr) (fun i _ => L.length - (intOf i).toNat)
    case atStart => exact ⟨0, by omega, rfl, by omega, Below.refl _ _⟩
    case round =>
      obtain ⟨k, hk, rfl, he, hb⟩ := hrel
      have HE := Lib.hid he
      clear he
      by_cases hlt : k < L.length
      · obtain ⟨b1, o1, rfl, hb1, r1⟩ := hA (by omega)
        obtain ⟨z, r, sz⟩ := r1 k hlt
        have g1 := range_below r hb hb1
        have s2 := (sz.below hb).mono hb.size
        have hlt2 := tAt_lt hL k
        obtain ⟨A2, c2, rfl⟩ := sz.form
        have cB := fun w' => hasBase_any (tAt L k).1 A2 (tAt L k).2.length c2 (k : Int) w' hlt2.1 (by omega)
        have cR := fun w' (hb : Below wr.heap.size wr w') => hasRows_any (tAt L k).1 _ (tAt L k).2 w' hlt2.2 (s2.later hb)
        have HOK : Hid (okStpB (tAt L k) (k : Int) = (okBase (tAt L k).1 (k : Int) && okRows (tAt L k).2)) := Lib.hid rfl
        have HF := Lib.hid (fun h => okSts_false_at (L := L) (k := k) hlt h)
        have a0 := Row.new wr 85 (StC (tAt L k).1 (.slice A2 (tAt L k).2.length c2))
        have hw0 := (Below.refl wr.heap.size wr).alloc (Nat.le_refl _) (.cells (StC (tAt L k).1 (.slice A2 (tAt L k).2.length c2)) 85)
        have CB := Lib.hid cB
        have CR := Lib.hid cR
        clear hA r1 r sz s2 hlt2 cB cR
        have g2 : wr.rangeAt b1 (o1 + k * 5) (eSt.c ((tAt L k).1, A2, (tAt L k).2.length, c2)) := g1
        clear g1
        generalize hhd : (tAt L k).1 = hd at *
        generalize (tAt L k).2.length = m at *
        obtain ⟨q, p, e, s⟩ := hd
        have HH := Lib.hid hhd
        clear hhd
        unfold StC at a0 hw0
        generalize hob : okBase (q, p, e, s) (k : Int) = ob at *
        generalize hor : okRows (tAt L k).2 = orr at *
        have cB := CB.out
        have cR := CR.out
        have hlw := hw0.size
        clear CB CR
        have HB := Lib.hid hb
        clear hb
        cases ob with
        | false =>
          have HX := Lib.hid (HF.out (by rw [HOK.out]; rfl))
          clear cR HF HOK
          go_wp2_with (first | (refine wpList_load_el (E := eSt) rfl 85 _ rfl _ _ rfl ((q, p, e, s), A2, m, c2) #[.int .i8 q, .int .i8 p, .int .i8 e, .int .i8 s, .slice A2 m c2] rfl g2 Try.underlying85 rfl (by kernel_rfl) ?_) | (go_at_call 96; refine (cB _).mono ?_; rintro e' w2 ⟨rfl, hb2⟩; replace hw0 := grown_below hw0 hb2 hw0.size))
          go_ret
          exact ⟨ret_bool HX.out.symm, grown_below HB.out hw0 HB.out.size⟩
        | true =>
          cases orr with
          | false =>
            have HX := Lib.hid (HF.out (by rw [HOK.out]; rfl))
            clear HF HOK
            go_wp2_with (first | (refine wpList_load_el (E := eSt) rfl 85 _ rfl _ _ rfl ((q, p, e, s), A2, m, c2) #[.int .i8 q, .int .i8 p, .int .i8 e, .int .i8 s, .slice A2 m c2] rfl g2 Try.underlying85 rfl (by kernel_rfl) ?_) | (go_at_call 96; refine (cB _).mono ?_; rintro e' w2 ⟨rfl, hb2⟩; replace a0 := Row.below a0 hb2 (Row.lt a0); replace hw0 := grown_below hw0 hb2 hw0.size; clear hb2 g2 cB; have k0 : w2.cell? ⟨wr.heap.size, 0, none⟩ = some (.int .i8 q) := Row.cell a0 0; have k1 : w2.cell? ⟨wr.heap.size, 1, none⟩ = some (.int .i8 p) := Row.cell a0 1; have k2 : w2.cell? ⟨wr.heap.size, 2, none⟩ = some (.int .i8 e) := Row.cell a0 2; have k3 : w2.cell? ⟨wr.heap.size, 3, none⟩ = some (.int .i8 s) := Row.cell a0 3; have k4 : w2.cell? ⟨wr.heap.size, 4, none⟩ = some (.slice A2 m c2) := Row.cell a0 4) | (go_at_call 97; refine (cR _ hw0).mono ?_; rintro e' w3 ⟨rfl, hb3⟩; replace hw0 := grown_below hw0 hb3 hw0.size))
            go_ret
            exact ⟨ret_bool HX.out.symm, grown_below HB.out hw0 HB.out.size⟩
          | true =>
            have HX := Lib.hid (show okStpB (tAt L k) (k : Int) = true by rw [HOK.out]; rfl)
            clear HF HOK
            go_wp2_with (first | (refine wpList_load_el (E := eSt) rfl 85 _ rfl _ _ rfl ((q, p, e, s), A2, m, c2) #[.int .i8 q, .int .i8 p, .int .i8 e, .int .i8 s, .slice A2 m c2] rfl g2 Try.underlying85 rfl (by kernel_rfl) ?_) | (go_at_call 96; refine (cB _).mono ?_; rintro e' w2 ⟨rfl, hb2⟩; replace a0 := Row.below a0 hb2 (Row.lt a0); replace hw0 := grown_below hw0 hb2 hw0.size; clear hb2 g2 cB; have k0 : w2.cell? ⟨wr.heap.size, 0, none⟩ = some (.int .i8 q) := Row.cell a0 0; have k1 : w2.cell? ⟨wr.heap.size, 1, none⟩ = some (.int .i8 p) := Row.cell a0 1; have k2 : w2.cell? ⟨wr.heap.size, 2, none⟩ = some (.int .i8 e) := Row.cell a0 2; have k3 : w2.cell? ⟨wr.heap.size, 3, none⟩ = some (.int .i8 s) := Row.cell a0 3; have k4 : w2.cell? ⟨wr.heap.size, 4, none⟩ = some (.slice A2 m c2) := Row.cell a0 4) | (go_at_call 97; refine (cR _ hw0).mono ?_; rintro e' w3 ⟨rfl, hb3⟩; replace hw0 := grown_below hw0 hb3 hw0.size))
            go_roundw
            case rel =>
              go_light
              refine ⟨k + 1, by omega, by go_num, ?_, grown_below HB.out hw0 HB.out.size⟩
              intro j hj
              rcases Nat.lt_succ_iff_lt_or_eq.1 hj with h | rfl
              · exact HE.out j h
              · exact HX.out
            case measure => simp [intOf]; omega
      · have hkl : k = L.length := by omega
        subst hkl
        clear hA
        go_wp2
        go_ret
        exact ⟨ret_bool (okSts_iff.2 ⟨by omega, HE.out⟩).symm, hb⟩
end Go.Proofs.Ytjbjbdkmomkclab
