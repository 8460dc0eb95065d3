/- The laws' own helpers over []Dot. -/
import Derived.Test.YtennmnkjdchbhacDoorShot0
import Derived.Test.YtennmnkjdchbhacDoorLBook
import Derived.Test.YtennmnkjdchbhacDoorLI64
namespace Go.Proofs.YtennmnkjdchbhacDoor
set_option maxRecDepth 100000
open Go.RowKit
set_option linter.unusedVariables false
set_option maxHeartbeats 400000 in
theorem eqDot_any (s t : Int × Int) (w : World) :
    Calls Tryd.prog 37 #[.agg (SC s), .agg (SC t)] w fun e w' => e = .returned (.bool (decide (s = t))) ∧ Below w.heap.size w w' := by
  obtain ⟨a, b⟩ := s
  obtain ⟨c, d⟩ := t
  have hb := ((Below.refl w.heap.size w).alloc (Nat.le_refl _) (.cells (SC (a, b)) 65)).alloc (by simp) (.cells (SC (c, d)) 65)
  unfold SC
  unfold SC at hb
  by_cases h1 : a = c
  · by_cases h2 : b = d
    · have e1 : (a != c) = false := by simp [h1]
      have e2 : (b != d) = false := by simp [h2]
      have hv : decide ((a, b) = (c, d)) = true := by simp [h1, h2]
      rw [hv]
      clear h1 h2 hv
      go_enter Tryd.func37, Tryd.ntmps37
      go_wp2
      go_ret
      exact ⟨rfl, hb⟩
    · have e1 : (a != c) = false := by simp [h1]
      have e2 : (b != d) = true := by simp [h2]
      have hv : decide ((a, b) = (c, d)) = false := by simp [h2]
      rw [hv]
      clear h1 h2 hv
      go_enter Tryd.func37, Tryd.ntmps37
      go_wp2
      go_ret
      exact ⟨rfl, hb⟩
  · have e1 : (a != c) = true := by simp [h1]
    have hv : decide ((a, b) = (c, d)) = false := by simp [h1]
    rw [hv]
    clear h1 hv
    go_enter Tryd.func37, Tryd.ntmps37
    go_wp2
    go_ret
    exact ⟨rfl, hb⟩
theorem infoDt : (Tryd.prog.info? 65).map (fun i => (i.zero, i.size, i.bytes)) = some (some (.agg (SC zeroS)), 2, 2) := by kernel_rfl
set_option maxHeartbeats 400000 in
theorem eqDotS_any (u v : Value) (L M : List (Int × Int)) (w : World) (hu : SlAt eSh w w.heap.size u L) (hv : SlAt eSh w w.heap.size v M) :
    Calls Tryd.prog 16 #[u, v] w fun e w' => e = .returned (.bool (decide (L = M))) ∧ Below w.heap.size w w' := by
  obtain ⟨A, c, rfl, h1, h2, hA⟩ := hu
  obtain ⟨B, d, rfl, h3, h4, hB⟩ := hv
  unfold maxLen at h2 h4
  by_cases hl : L.length = M.length
  · have e1 : ((L.length : Int) != (M.length : Int)) = false := by simp [hl]
    have HL := Lib.hid hl
    clear hl
    go_enter Tryd.func16, Tryd.ntmps16
    go_wp2
    go_loopw [5] (fun i wr => ∃ k : Nat, k ≤ L.length ∧ i = .int .i64 k ∧ (∀ j, j < k → sAt L j = sAt M j) ∧ Below w.heap.size w wr) (fun i _ => L.length - (intOf i).toNat)
    case atStart => exact ⟨0, by omega, rfl, by omega, Below.refl _ _⟩
    case round =>
      obtain ⟨k, hk, rfl, he, hb⟩ := hrel
      have HE := Lib.hid he
      clear he
      by_cases hlt : k < L.length
      · have hltM : k < M.length := by rw [← HL.out]; exact hlt
        obtain ⟨b1, o1, rfl, hb1, r1⟩ := hA (by omega)
        obtain ⟨b2, o2, rfl, hb2, r2⟩ := hB (by omega)
        have g1 := range_below (range_part r1 (sAt_get hlt)) hb hb1
        have g2 := range_below (range_part r2 (sAt_get hltM)) hb hb2
        have l1 : b1 < wr.heap.size := Nat.lt_of_lt_of_le hb1 hb.size
        have l2 : b2 < wr.heap.size := Nat.lt_of_lt_of_le hb2 hb.size
        rw [eSh_n] at g1 g2
        clear hA hB r1 r2
        go_wp2_with fail
        refine wp_region_calm (by kernel_rfl) (by kernel_rfl) ?_
        repeat (first | (first | refine wpQuiet_load_el (E := eSh) rfl 65 _ rfl _ _ rfl (sAt L k) (SC (sAt L k)) rfl g1 l1 Tryd.underlying65 rfl (by kernel_rfl) ?_ | refine wpQuiet_load_el (E := eSh) rfl 65 _ rfl _ _ rfl (sAt M k) (SC (sAt M k)) rfl g2 l2 Tryd.underlying65 rfl (by kernel_rfl) ?_) | quiet_step (exact Calls.regrown_of (eqDot_any _ _ _)))
        refine wpQuiet_nil ?_
        intro w3 hb3
        replace hb := grown_below hb hb3 hb.size
        clear g1 g2 hb3
        cases hq : decide (sAt L k = sAt M k) with
        | true =>
          have HQ := Lib.hid (of_decide_eq_true hq)
          clear hq
          go_wp2
          go_roundw
          case rel =>
            go_light
            refine ⟨k + 1, by omega, by go_num, ?_, hb⟩
            intro j hj
            rcases Nat.lt_succ_iff_lt_or_eq.1 hj with h | rfl
            · exact HE.out j h
            · exact HQ.out
          case measure => simp [intOf]; omega
        | false =>
          have HQ := Lib.hid (show L ≠ M from fun e => of_decide_eq_false hq (by rw [e]))
          clear hq
          go_wp2
          go_ret
          exact ⟨ret_bool (by rw [decide_eq_false HQ.out]), hb⟩
      · go_wp2
        go_ret
        have hkl : k = L.length := by omega
        subst hkl
        exact ⟨ret_bool (by rw [decide_eq_true (eq_of_getD (z := zeroS) HL.out HE.out)]), hb⟩
  · have e1 : ((L.length : Int) != (M.length : Int)) = true := by simp; omega
    have HL := Lib.hid hl
    clear hl
    go_enter Tryd.func16, Tryd.ntmps16
    go_wp2
    go_ret
    exact ⟨ret_bool (by rw [decide_eq_false (fun e => HL.out (by rw [e]))]), Below.refl _ _⟩
theorem eqDotS_same (u v : Value) (L : List (Int × Int)) (w : World) (hu : SlAt eSh w w.heap.size u L) (hv : SlAt eSh w w.heap.size v L) :
    Calls Tryd.prog 16 #[u, v] w fun e w' => e = .returned (.bool true) ∧ Below w.heap.size w w' := by
  have := eqDotS_any u v L L w hu hv
  rw [decide_eq_true rfl] at this
  exact this
end Go.Proofs.YtennmnkjdchbhacDoor
