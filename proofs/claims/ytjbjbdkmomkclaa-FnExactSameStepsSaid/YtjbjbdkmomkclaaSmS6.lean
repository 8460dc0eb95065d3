/- SAME STEPS: spec: l06SameStep, SameSteps. -/
import Derived.Test.YtjbjbdkmomkclaaSmS2
import Derived.Test.YtjbjbdkmomkclaaSmS3
import Derived.Test.YtjbjbdkmomkclaaSmS4
import Derived.Test.YtjbjbdkmomkclaaSmS5
namespace Go.Proofs.Ytjbjbdkmomkclaa
set_option maxRecDepth 100000
open Go.RowKit
set_option linter.unusedVariables false
set_option linter.unusedSimpArgs false
theorem specSameStep_any (b1 o1 b2 o2 : Nat) (s t : Hd) (u v : Value) (L M : List (Int × Int)) (w : World) (lb1 : b1 < w.heap.size) (lb2 : b2 < w.heap.size) (r1 : w.rangeAt b1 o1 (StC s u).toList) (r2 : w.rangeAt b2 o2 (StC t v).toList) (hu : SlAt eCg w w.heap.size u L) (hv : SlAt eCg w w.heap.size v M) :
    Calls Try.prog 49 #[.pointer (some ⟨b1, o1, none⟩), .pointer (some ⟨b2, o2, none⟩)] w fun e w' => e = .returned (.bool (eqSB (s, L) (t, M))) ∧ Below w.heap.size w w' := by
  obtain ⟨a0, a1, a2, a3⟩ := s
  obtain ⟨z0, z1, z2, z3⟩ := t
  obtain ⟨A, c, rfl, y1, y2, hA⟩ := hu
  obtain ⟨B, d, rfl, y3, y4, hB⟩ := hv
  by_cases h0 : a0 = z0
  · by_cases h1 : a1 = z1
    · by_cases h2 : a2 = z2
      · by_cases h3 : a3 = z3
        · by_cases hl : L.length = M.length
          · exact sameStepAll b1 o1 b2 o2 _ _ _ _ _ _ _ _ A B c d L M w r1 r2 lb1 lb2 h0 h1 h2 h3 hl y1 y2 y3 y4 hA hB
          · exact sameStep4 b1 o1 b2 o2 _ _ _ _ _ _ _ _ A B c d L M w r1 r2 h0 h1 h2 h3 hl y1 y2 y3 y4
        · exact sameStep3 b1 o1 b2 o2 _ _ _ _ _ _ _ _ A B c d L M w r1 r2 h0 h1 h2 h3
      · exact sameStep2 b1 o1 b2 o2 _ _ _ _ _ _ _ _ A B c d L M w r1 r2 h0 h1 h2
    · exact sameStep1 b1 o1 b2 o2 _ _ _ _ _ _ _ _ A B c d L M w r1 r2 h0 h1
  · exact sameStep0 b1 o1 b2 o2 _ _ _ _ _ _ _ _ A B c d L M w r1 r2 h0
set_option maxHeartbeats 4000000 in
theorem specSameSteps_any (u v : Value) (L M : List Stp) (w : World) (hu : StsAt w w.heap.size u L) (hv : StsAt w w.heap.size v M) :
    Calls Try.prog 15 #[u, v] w fun e w' => e = .returned (.bool (decide (L = M))) ∧ Below w.heap.size w w' := by
  obtain ⟨A, c, rfl, h1, h2, hA⟩ := hu
  obtain ⟨B, d, rfl, h3, h4, hB⟩ := hv
  unfold maxLen at h2 h4
  by_cases hl : L.length = M.length
  · have e1 : ((L.length : Int) != (M.length : Int)) = false := by simp [hl]
    have HL := Lib.hid hl
    clear hl
    go_enter Try.func15, Try.ntmps15
    go_wp2
    go_loopw [5] (fun i wr => ∃ k : Nat, k ≤ L.length ∧ i = .int .i64 k ∧ (∀ j, j < k → tAt L j = tAt M j) ∧ Below w.heap.size w wr) (fun i _ => L.length - (intOf i).toNat)
    case atStart => exact ⟨0, by omega, rfl, by omega, Below.refl _ _⟩
    case round =>
      obtain ⟨k, hk, rfl, he, hb⟩ := hrel
      have HE := Lib.hid he
      clear he
      by_cases hlt : k < L.length
      · have hltM : k < M.length := by rw [← HL.out]; exact hlt
        obtain ⟨p1, o1, rfl, hp1, r1⟩ := hA (by omega)
        obtain ⟨p2, o2, rfl, hp2, r2⟩ := hB (by omega)
        obtain ⟨z1, q1, s1⟩ := r1 k hlt
        obtain ⟨z2, q2, s2⟩ := r2 k hltM
        have g1 := range_below q1 hb hp1
        have g2 := range_below q2 hb hp2
        have l1 : p1 < wr.heap.size := Nat.lt_of_lt_of_le hp1 hb.size
        have l2 : p2 < wr.heap.size := Nat.lt_of_lt_of_le hp2 hb.size
        have t1 := (s1.below hb).mono hb.size
        have t2 := (s2.below hb).mono hb.size
        have cE := fun w' (hb' : Below wr.heap.size wr w') => specSameStep_any p1 (o1 + k * 5) p2 (o2 + k * 5) (tAt L k).1 (tAt M k).1 _ _ (tAt L k).2 (tAt M k).2 w' (Nat.lt_of_lt_of_le l1 hb'.size) (Nat.lt_of_lt_of_le l2 hb'.size) (range_below g1 hb' l1) (range_below g2 hb' l2) (t1.later hb') (t2.later hb')
        have hE2 : eqSB ((tAt L k).1, (tAt L k).2) ((tAt M k).1, (tAt M k).2) = eqSB (tAt L k) (tAt M k) := rfl
        rw [hE2] at cE
        generalize hq : eqSB (tAt L k) (tAt M k) = q at cE
        have HQ0 := Lib.hid hq
        have CE := Lib.hid cE
        clear hE2 hq hA hB r1 r2 q1 q2 s1 s2 t1 t2 cE g1 g2
        go_wp2_with fail
        refine wp_region_calm (by kernel_rfl) (by kernel_rfl) ?_
        repeat (quiet_step (first | exact Calls.regrown_of (CE.out _ (below_regrown _ _ _))))
        refine wpQuiet_nil ?_
        intro w4 hb4
        replace hb := grown_below hb hb4 hb.size
        clear hb4 CE
        cases q with
        | true =>
          have HQ := Lib.hid (show tAt L k = tAt M k from of_decide_eq_true HQ0.out)
          clear HQ0
          go_wp2
          go_roundw
          case rel =>
            go_light
            refine ⟨k + 1, by omega, by go_num, ?_, hb⟩
            intro j hj
            rcases Nat.lt_succ_iff_lt_or_eq.1 hj with h | rfl
            · exact HE.out j h
            · exact HQ.out
          case measure => simp [intOf]; omega
        | false =>
          have HQ := Lib.hid (show L ≠ M from fun e => of_decide_eq_false HQ0.out (by rw [e]))
          clear HQ0
          go_wp2
          go_ret
          exact ⟨ret_bool (by rw [decide_eq_false HQ.out]), hb⟩
      · go_wp2
        go_ret
        have hkl : k = L.length := by omega
        subst hkl
        exact ⟨ret_bool (by rw [decide_eq_true (eq_of_getD (z := zeroStp) HL.out HE.out)]), hb⟩
  · have e1 : ((L.length : Int) != (M.length : Int)) = true := by simp; omega
    have HL := Lib.hid hl
    clear hl
    go_enter Try.func15, Try.ntmps15
    go_wp2
    go_ret
    exact ⟨ret_bool (by rw [decide_eq_false (fun e => HL.out (by rw [e]))]), Below.refl _ _⟩
end Go.Proofs.Ytjbjbdkmomkclaa
