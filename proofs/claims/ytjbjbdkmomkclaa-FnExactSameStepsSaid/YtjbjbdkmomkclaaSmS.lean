/- SAME STEPS: impl: slices.Equal of changes, Step.same, slices.EqualFunc, SameSteps. -/
import Derived.Test.YtjbjbdkmomkclaaStp3
import Derived.Test.YtjbjbdkmomkclaaLI64
namespace Go.Proofs.Ytjbjbdkmomkclaa
set_option maxRecDepth 100000
open Go.RowKit
set_option linter.unusedVariables false
set_option linter.unusedSimpArgs false
theorem run_eql_cg (w : World) (a b : Int × Int) : (binOp .eql 113 (.agg (CgC a)) (.agg (CgC b))).run Try.prog w = .ok (.bool (decide (a = b))) w := by
  obtain ⟨a0, a1⟩ := a
  obtain ⟨b0, b1⟩ := b
  show (binOp .eql 113 (.agg #[.int .i8 a0, .int .u16 a1]) (.agg #[.int .i8 b0, .int .u16 b1])).run Try.prog w = _
  by_cases h0 : a0 = b0
  · by_cases h1 : a1 = b1
    · rw [h0, h1, decide_eq_true rfl]
      go_simp
    · have e1 : (a1 == b1) = false := by simp [h1]
      rw [decide_eq_false (fun e => h1 (by injection e)), h0]
      clear h0 h1
      go_simp
  · have e0 : (a0 == b0) = false := by simp [h0]
    rw [decide_eq_false (fun e => h0 (by injection e))]
    clear h0
    go_simp
theorem run_neq_cg (w : World) (a b : Int × Int) : (binOp .neq 113 (.agg (CgC a)) (.agg (CgC b))).run Try.prog w = .ok (.bool (!decide (a = b))) w := by
  obtain ⟨a0, a1⟩ := a
  obtain ⟨b0, b1⟩ := b
  show (binOp .neq 113 (.agg #[.int .i8 a0, .int .u16 a1]) (.agg #[.int .i8 b0, .int .u16 b1])).run Try.prog w = _
  by_cases h0 : a0 = b0
  · by_cases h1 : a1 = b1
    · rw [h0, h1, decide_eq_true rfl]
      go_simp
    · have e1 : (a1 == b1) = false := by simp [h1]
      rw [decide_eq_false (fun e => h1 (by injection e)), h0]
      clear h0 h1
      go_simp
  · have e0 : (a0 == b0) = false := by simp [h0]
    rw [decide_eq_false (fun e => h0 (by injection e))]
    clear h0
    go_simp
set_option maxHeartbeats 1000000 in
theorem slEqualC_any (u v : Value) (L M : List (Int × Int)) (w : World) (hu : SlAt eCg w w.heap.size u L) (hv : SlAt eCg w w.heap.size v M) :
    Calls Try.prog 85 #[u, v] w fun e w' => e = .returned (.bool (decide (L = M))) ∧ Below w.heap.size w w' := by
  obtain ⟨A, c, rfl, h1, h2, hA⟩ := hu
  obtain ⟨B, d, rfl, h3, h4, hB⟩ := hv
  unfold maxLen at h2 h4
  by_cases hl : L.length = M.length
  · have e1 : ((L.length : Int) != (M.length : Int)) = false := by simp [hl]
    have HL := Lib.hid hl
    clear hl
    go_enter Try.func85, Try.ntmps85
    go_wp2
    go_loopw [13] (fun i wr => ∃ k : Nat, k ≤ L.length ∧ i = .int .i64 k ∧ (∀ j, j < k → cgAt L j = cgAt M j) ∧ Below w.heap.size w wr) (fun i _ => L.length - (intOf i).toNat)
    case atStart => exact ⟨0, by omega, rfl, by omega, Below.refl _ _⟩
    case round =>
      obtain ⟨k, hk, rfl, he, hb⟩ := hrel
      have HE := Lib.hid he
      clear he
      by_cases hlt : k < L.length
      · have hltM : k < M.length := by rw [← HL.out]; exact hlt
        obtain ⟨b1, o1, rfl, hb1, r1⟩ := hA (by omega)
        obtain ⟨b2, o2, rfl, hb2, r2⟩ := hB (by omega)
        have g1 := range_below (range_part r1 (cgAt_get hlt)) hb hb1
        have g2 := range_below (range_part r2 (cgAt_get hltM)) hb hb2
        have l1 : b1 < wr.heap.size := Nat.lt_of_lt_of_le hb1 hb.size
        have l2 : b2 < wr.heap.size := Nat.lt_of_lt_of_le hb2 hb.size
        rw [eCg_n] at g1 g2
        clear hA hB r1 r2
        have hq := fun w => run_neq_cg w (cgAt L k) (cgAt M k)
        generalize hE : decide (cgAt L k = cgAt M k) = q at *
        go_wp2_with fail
        refine wp_region_calm (by kernel_rfl) (by kernel_rfl) ?_
        repeat (first | (first | refine wpQuiet_load_el (E := eCg) rfl 113 _ rfl _ _ rfl (cgAt L k) (CgC (cgAt L k)) rfl g1 l1 Try.underlying113 rfl (by kernel_rfl) ?_ | refine wpQuiet_load_el (E := eCg) rfl 113 _ rfl _ _ rfl (cgAt M k) (CgC (cgAt M k)) rfl g2 l2 Try.underlying113 rfl (by kernel_rfl) ?_) | quiet_step (fail))
        refine wpQuiet_nil ?_
        intro w3 hb3
        replace hb := grown_below hb hb3 hb.size
        clear g1 g2 hb3
        have HQ := Lib.hid hE
        clear hE
        cases q with
        | true =>
          go_wp2
          go_roundw
          case rel =>
            go_light
            refine ⟨k + 1, by omega, by go_num, ?_, hb⟩
            intro j hj
            rcases Nat.lt_succ_iff_lt_or_eq.1 hj with h | rfl
            · exact HE.out j h
            · exact of_decide_eq_true HQ.out
          case measure => simp [intOf]; omega
        | false =>
          go_wp2
          go_ret
          exact ⟨ret_bool (by rw [decide_eq_false (fun e => of_decide_eq_false HQ.out (by rw [e]))]), hb⟩
      · go_wp2
        go_ret
        have hkl : k = L.length := by omega
        subst hkl
        exact ⟨ret_bool (by rw [decide_eq_true (eq_of_getD (z := zeroCg) HL.out HE.out)]), hb⟩
  · have e1 : ((L.length : Int) != (M.length : Int)) = true := by simp; omega
    have HL := Lib.hid hl
    clear hl
    go_enter Try.func85, Try.ntmps85
    go_wp2
    go_ret
    exact ⟨ret_bool (by rw [decide_eq_false (fun e => HL.out (by rw [e]))]), Below.refl _ _⟩
set_option maxHeartbeats 2000000 in
theorem same_any (s t : Hd) (u v : Value) (L M : List (Int × Int)) (w : World) (hu : SlAt eCg w w.heap.size u L) (hv : SlAt eCg w w.heap.size v M) :
    Calls Try.prog 51 #[.agg (StC s u), .agg (StC t v)] w fun e w' => e = .returned (.bool (eqSB (s, L) (t, M))) ∧ Below w.heap.size w w' := by
  obtain ⟨a0, a1, a2, a3⟩ := s
  obtain ⟨b0, b1, b2, b3⟩ := t
  have cE := fun w' (hb : Below w.heap.size w w') => slEqualC_any _ _ L M w' (hu.later hb) (hv.later hb)
  obtain ⟨A, c, rfl⟩ := hu.form
  obtain ⟨B, d, rfl⟩ := hv.form
  have hb := ((Below.refl w.heap.size w).alloc (Nat.le_refl _) (.cells (StC (a0, a1, a2, a3) (.slice A L.length c)) 71)).alloc (by simp) (.cells (StC (b0, b1, b2, b3) (.slice B M.length d)) 71)
  clear hu hv
  unfold StC
  unfold StC at hb
  by_cases h0 : a0 = b0
  · by_cases h1 : a1 = b1
    · by_cases h2 : a2 = b2
      · by_cases h3 : a3 = b3
        · by_cases h4 : L = M
          · have e0 : (a0 == b0) = true := by simp [h0]
            have e1 : (a1 == b1) = true := by simp [h1]
            have e2 : (a2 == b2) = true := by simp [h2]
            have e3 : (a3 == b3) = true := by simp [h3]
            have hv : eqSB ((a0, a1, a2, a3), L) ((b0, b1, b2, b3), M) = true := by simp [eqSB, h0,h1,h2,h3,h4]
            rw [decide_eq_true h4] at cE
            clear h0 h1 h2 h3 h4
            rw [hv]
            clear hv
            go_enter Try.func51, Try.ntmps51
            go_wp2_with (go_at_call 85; refine (cE _ hb).mono ?_; rintro e w' ⟨rfl, hb2⟩; replace hb := grown_below hb hb2 hb.size)
            go_ret
            exact ⟨rfl, hb⟩
          · have e0 : (a0 == b0) = true := by simp [h0]
            have e1 : (a1 == b1) = true := by simp [h1]
            have e2 : (a2 == b2) = true := by simp [h2]
            have e3 : (a3 == b3) = true := by simp [h3]
            have hv : eqSB ((a0, a1, a2, a3), L) ((b0, b1, b2, b3), M) = false := by simp [eqSB, h4]
            rw [decide_eq_false h4] at cE
            clear h0 h1 h2 h3 h4
            rw [hv]
            clear hv
            go_enter Try.func51, Try.ntmps51
            go_wp2_with (go_at_call 85; refine (cE _ hb).mono ?_; rintro e w' ⟨rfl, hb2⟩; replace hb := grown_below hb hb2 hb.size)
            go_ret
            exact ⟨rfl, hb⟩
        · have e0 : (a0 == b0) = true := by simp [h0]
          have e1 : (a1 == b1) = true := by simp [h1]
          have e2 : (a2 == b2) = true := by simp [h2]
          have e3 : (a3 == b3) = false := by simp [h3]
          have hv : eqSB ((a0, a1, a2, a3), L) ((b0, b1, b2, b3), M) = false := by simp [eqSB, h3]
          clear h0 h1 h2 h3 cE
          rw [hv]
          clear hv
          go_enter Try.func51, Try.ntmps51
          go_wp2
          go_ret
          exact ⟨rfl, hb⟩
      · have e0 : (a0 == b0) = true := by simp [h0]
        have e1 : (a1 == b1) = true := by simp [h1]
        have e2 : (a2 == b2) = false := by simp [h2]
        have hv : eqSB ((a0, a1, a2, a3), L) ((b0, b1, b2, b3), M) = false := by simp [eqSB, h2]
        clear h0 h1 h2 cE
        rw [hv]
        clear hv
        go_enter Try.func51, Try.ntmps51
        go_wp2
        go_ret
        exact ⟨rfl, hb⟩
    · have e0 : (a0 == b0) = true := by simp [h0]
      have e1 : (a1 == b1) = false := by simp [h1]
      have hv : eqSB ((a0, a1, a2, a3), L) ((b0, b1, b2, b3), M) = false := by simp [eqSB, h1]
      clear h0 h1 cE
      rw [hv]
      clear hv
      go_enter Try.func51, Try.ntmps51
      go_wp2
      go_ret
      exact ⟨rfl, hb⟩
  · have e0 : (a0 == b0) = false := by simp [h0]
    have hv : eqSB ((a0, a1, a2, a3), L) ((b0, b1, b2, b3), M) = false := by simp [eqSB, h0]
    clear h0 cE
    rw [hv]
    clear hv
    go_enter Try.func51, Try.ntmps51
    go_wp2
    go_ret
    exact ⟨rfl, hb⟩
set_option maxHeartbeats 2000000 in
theorem eqFunc_any (u v : Value) (L M : List Stp) (w : World) (hu : StsAt w w.heap.size u L) (hv : StsAt w w.heap.size v M) :
    Calls Try.prog 50 #[u, v, .func (.func 51) #[] #[]] w fun e w' => e = .returned (.bool (decide (L = M))) ∧ Below w.heap.size w w' := by
  obtain ⟨A, c, rfl, h1, h2, hA⟩ := hu
  obtain ⟨B, d, rfl, h3, h4, hB⟩ := hv
  unfold maxLen at h2 h4
  by_cases hl : L.length = M.length
  · have e1 : ((L.length : Int) != (M.length : Int)) = false := by simp [hl]
    have HL := Lib.hid hl
    clear hl
    go_enter Try.func50, Try.ntmps50
    go_wp2
    go_loopw [17] (fun i wr => ∃ k : Nat, k ≤ L.length ∧ i = .int .i64 k ∧ (∀ j, j < k → tAt L j = tAt M j) ∧ Below w.heap.size w wr) (fun i _ => L.length - (intOf i).toNat)
    case atStart => exact ⟨0, by omega, rfl, by omega, Below.refl _ _⟩
    case round =>
      obtain ⟨k, hk, rfl, he, hb⟩ := hrel
      have HE := Lib.hid he
      clear he
      by_cases hlt : k < L.length
      · have hltM : k < M.length := by rw [← HL.out]; exact hlt
        obtain ⟨p1, o1, rfl, hp1, r1⟩ := hA (by omega)
        obtain ⟨p2, o2, rfl, hp2, r2⟩ := hB (by omega)
        obtain ⟨z1, q1, s1⟩ := r1 k hlt
        obtain ⟨z2, q2, s2⟩ := r2 k hltM
        have g1 := range_below q1 hb hp1
        have t1 := (s1.below hb).mono hb.size
        have t2 := (s2.below hb).mono hb.size
        obtain ⟨A1, c1, rfl⟩ := s1.form
        obtain ⟨A2, c2, rfl⟩ := s2.form
        have cE := fun w' (hb : Below wr.heap.size wr w') => same_any (tAt L k).1 (tAt M k).1 _ _ (tAt L k).2 (tAt M k).2 w' (t1.later hb) (t2.later hb)
        have hE2 : eqSB ((tAt L k).1, (tAt L k).2) ((tAt M k).1, (tAt M k).2) = eqSB (tAt L k) (tAt M k) := rfl
        rw [hE2] at cE
        generalize hq : eqSB (tAt L k) (tAt M k) = q at cE
        have HQ0 := Lib.hid hq
        have hw1 := (Below.refl wr.heap.size wr).alloc (Nat.le_refl _) (.cells (StC (tAt L k).1 (.slice A1 (tAt L k).2.length c1)) 71)
        have g2 := range_below (range_below q2 hb hp2) hw1 (Nat.lt_of_lt_of_le hp2 hb.size)
        have hw2 := hw1.alloc hw1.size (.cells (StC (tAt M k).1 (.slice A2 (tAt M k).2.length c2)) 71)
        have CE := Lib.hid cE
        clear hE2 hq hA hB r1 r2 q1 q2 s1 s2 t1 t2 cE hw1
        have y1 : wr.rangeAt p1 (o1 + k * 5) (eSt.c ((tAt L k).1, A1, (tAt L k).2.length, c1)) := g1
        clear g1
        generalize (tAt L k).1 = hd at *
        generalize (tAt M k).1 = hd' at *
        generalize (tAt L k).2.length = m at *
        generalize (tAt M k).2.length = m' at *
        obtain ⟨x0, x1, x2, x3⟩ := hd
        obtain ⟨y0, y1', y2, y3⟩ := hd'
        have y2' : (wr.alloc (.cells (StC (x0, x1, x2, x3) (.slice A1 m c1)) 71)).rangeAt p2 (o2 + k * 5) (eSt.c ((y0, y1', y2, y3), A2, m', c2)) := g2
        clear g2
        unfold StC at hw2 y2'
        have cE := CE.out
        unfold StC at cE
        clear CE
        go_wp2_with (first | (refine wpList_load_el (E := eSt) rfl 71 _ rfl _ _ rfl ((x0, x1, x2, x3), A1, m, c1) #[.int .i8 x0, .int .i8 x1, .int .i8 x2, .int .i8 x3, .slice A1 m c1] rfl y1 Try.underlying71 rfl (by kernel_rfl) ?_) | (refine wpList_load_el (E := eSt) rfl 71 _ rfl _ _ rfl ((y0, y1', y2, y3), A2, m', c2) #[.int .i8 y0, .int .i8 y1', .int .i8 y2, .int .i8 y3, .slice A2 m' c2] rfl y2' Try.underlying71 rfl (by kernel_rfl) ?_))
        refine (cE _ hw2).mono ?_
        rintro e w3 ⟨rfl, hb3⟩
        replace hw2 := grown_below hw2 hb3 hw2.size
        replace hb := grown_below hb hw2 hb.size
        clear hb3 hw2 cE y1 y2'
        cases q with
        | true =>
          have HQ := Lib.hid (show tAt L k = tAt M k from of_decide_eq_true HQ0.out)
          clear HQ0
          go_wp2
          go_roundw
          case rel =>
            go_light
            refine ⟨k + 1, by omega, by go_num, ?_, hb⟩
            intro j hj
            rcases Nat.lt_succ_iff_lt_or_eq.1 hj with h | rfl
            · exact HE.out j h
            · exact HQ.out
          case measure => simp [intOf]; omega
        | false =>
          have HQ := Lib.hid (show L ≠ M from fun e => of_decide_eq_false HQ0.out (by rw [e]))
          clear HQ0
          go_wp2
          go_ret
          exact ⟨ret_bool (by rw [decide_eq_false HQ.out]), hb⟩
      · go_wp2
        go_ret
        have hkl : k = L.length := by omega
        subst hkl
        exact ⟨ret_bool (by rw [decide_eq_true (eq_of_getD (z := zeroStp) HL.out HE.out)]), hb⟩
  · have e1 : ((L.length : Int) != (M.length : Int)) = true := by simp; omega
    have HL := Lib.hid hl
    clear hl
    go_enter Try.func50, Try.ntmps50
    go_wp2
    go_ret
    exact ⟨ret_bool (by rw [decide_eq_false (fun e => HL.out (by rw [e]))]), Below.refl _ _⟩
theorem implSameSteps_any (u v : Value) (L M : List Stp) (w : World) (hu : StsAt w w.heap.size u L) (hv : StsAt w w.heap.size v M) :
    Calls Try.prog 16 #[u, v] w fun e w' => e = .returned (.bool (decide (L = M))) ∧ Below w.heap.size w w' := by
  have cS := eqFunc_any u v L M w hu hv
  obtain ⟨A, c, rfl⟩ := hu.form
  obtain ⟨B, d, rfl⟩ := hv.form
  clear hu hv
  go_enter Try.func16, Try.ntmps16
  go_wp2_with (go_at_call 50; refine cS.mono ?_; rintro e w' ⟨rfl, hb1⟩)
  go_ret
  exact ⟨rfl, hb1⟩
end Go.Proofs.Ytjbjbdkmomkclaa
