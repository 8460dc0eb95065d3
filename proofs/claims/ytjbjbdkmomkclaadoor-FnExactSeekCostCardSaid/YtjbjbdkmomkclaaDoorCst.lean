/- COSTS OF STEPS: spec: l06Cost, l06Sum, StepsCost; impl: Step.cost, costOfAll, StepsCost. -/
import Derived.Test.YtjbjbdkmomkclaaDoorStv4
import Derived.Test.YtjbjbdkmomkclaaDoorKd
import Derived.Test.YtjbjbdkmomkclaaDoorCellQ
namespace Go.Proofs.YtjbjbdkmomkclaaDoor
set_option maxRecDepth 100000
open Go.RowKit
set_option linter.unusedVariables false
set_option linter.unusedSimpArgs false
def baseZ (q : Int) : Int := if q = 0 then 1 else if q = 1 then 2 else 4
def costZ (s : Stp) : Int := baseZ s.1.1 + 3 * (s.2.length : Int)
theorem baseZ_in (q : Int) : 1 ≤ baseZ q ∧ baseZ q ≤ 4 := by unfold baseZ; split <;> (try split) <;> omega
def sumZ (L : List Stp) : Nat → Int
  | 0 => 0
  | k + 1 => sumZ L k + costZ (tAt L k)
theorem sumZ_in (L : List Stp) : ∀ k, 0 ≤ sumZ L k ∧ sumZ L k ≤ 4 * (k : Int) + 3 * (rowsN L k : Int)
  | 0 => ⟨Int.le_refl _, by simp [sumZ, rowsN]⟩
  | k + 1 => by
    have ih := sumZ_in L k
    have hb := baseZ_in (tAt L k).1.1
    have e1 : sumZ L (k + 1) = sumZ L k + (baseZ (tAt L k).1.1 + 3 * ((tAt L k).2.length : Int)) := rfl
    have e2 : rowsN L (k + 1) = rowsN L k + (tAt L k).2.length := rfl
    rw [e1, e2]
    omega
theorem okBase_how {h : Hd} {i : Int} (ho : okBase h i = true) : h.1 = 0 ∨ h.1 = 1 ∨ h.1 = 2 := by
  have := inB_iff.1 (okBase_far ho).1
  omega
theorem okSts_how {L : List Stp} (h : okSts L = true) {k : Nat} (hk : k < L.length) : (tAt L k).1.1 = 0 ∨ (tAt L k).1.1 = 1 ∨ (tAt L k).1.1 = 2 := by
  have := (okSts_iff.1 h).2 k hk
  unfold okStpB at this
  rw [Bool.and_eq_true] at this
  exact okBase_how this.1
set_option maxHeartbeats 2000000 in
theorem specCost_any (b o : Nat) (h : Hd) (A : Option Addr) (n c : Nat) (w : World) (hq : h.1 = 0 ∨ h.1 = 1 ∨ h.1 = 2) (hn : n ≤ 1000000) (r : w.rangeAt b o (StC h (.slice A n c)).toList) (hbl : b < w.heap.size) :
    Calls Tryd.prog 30 #[.pointer (some ⟨b, o, none⟩)] w fun e w' => e = .returned (.int .i64 (baseZ h.1 + 3 * (n : Int))) ∧ Below w.heap.size w w' := by
  obtain ⟨q, p, e, s⟩ := h
  simp only at hq
  have km : IntKind.i64.wrap (3 * (n : Int)) = 3 * (n : Int) := IntWalk.i64_in _ (by omega)
  have km2 : wrap64 (3 * (n : Int)) = 3 * (n : Int) := IntWalk.wrap64_in _ (by omega)
  have ka : ∀ z : Int, 0 ≤ z → z ≤ 4 → IntKind.i64.wrap (z + 3 * (n : Int)) = z + 3 * (n : Int) := fun z h1 h2 => IntWalk.i64_in _ (by omega)
  have k1 := ka 1 (by omega) (by omega)
  have k2 := ka 2 (by omega) (by omega)
  have k4 := ka 4 (by omega) (by omega)
  have h0 := (Below.refl w.heap.size w).alloc (Nat.le_refl _) (.cells #[.int .i64 1, .int .i64 2, .int .i64 4] 79)
  have a3 := Row.new w 79 #[.int .i64 1, .int .i64 2, .int .i64 4]
  have r1 := range_below r ((Below.refl w.heap.size w).alloc (Nat.le_refl _) (.cells #[.int .i64 1, .int .i64 2, .int .i64 4] 79)) hbl
  have c0 := cell_q (st_cell0 r1)
  have c4 := cell_q (st_cell4 r1)
  simp only at c0 c4
  have d0 := cell_q (show (w.alloc (.cells #[.int .i64 1, .int .i64 2, .int .i64 4] 79)).cell? ⟨w.heap.size, 0, none⟩ = some (.int .i64 1) from Row.cell a3 0)
  have d1 := cell_q (show (w.alloc (.cells #[.int .i64 1, .int .i64 2, .int .i64 4] 79)).cell? ⟨w.heap.size, 1, none⟩ = some (.int .i64 2) from Row.cell a3 1)
  have d2 := cell_q (show (w.alloc (.cells #[.int .i64 1, .int .i64 2, .int .i64 4] 79)).cell? ⟨w.heap.size, 2, none⟩ = some (.int .i64 4) from Row.cell a3 2)
  clear a3 r r1 ka
  rcases hq with rfl | rfl | rfl
  · show Calls _ _ _ _ fun e w' => e = .returned (.int .i64 (1 + 3 * (n : Int))) ∧ Below w.heap.size w w'
    go_enter Tryd.func30, Tryd.ntmps30
    go_wp2_with fail
    generalize w.alloc _ = w1 at *
    refine wp_region_calm (by kernel_rfl) (by kernel_rfl) ?_
    repeat (quiet_step (fail))
    refine wpQuiet_nil ?_
    intro w5 hb5
    go_wp2
    go_ret
    exact ⟨rfl, grown_below h0 hb5 h0.size⟩
  · show Calls _ _ _ _ fun e w' => e = .returned (.int .i64 (2 + 3 * (n : Int))) ∧ Below w.heap.size w w'
    go_enter Tryd.func30, Tryd.ntmps30
    go_wp2_with fail
    generalize w.alloc _ = w1 at *
    refine wp_region_calm (by kernel_rfl) (by kernel_rfl) ?_
    repeat (quiet_step (fail))
    refine wpQuiet_nil ?_
    intro w5 hb5
    go_wp2
    go_ret
    exact ⟨rfl, grown_below h0 hb5 h0.size⟩
  · show Calls _ _ _ _ fun e w' => e = .returned (.int .i64 (4 + 3 * (n : Int))) ∧ Below w.heap.size w w'
    go_enter Tryd.func30, Tryd.ntmps30
    go_wp2_with fail
    generalize w.alloc _ = w1 at *
    refine wp_region_calm (by kernel_rfl) (by kernel_rfl) ?_
    repeat (quiet_step (fail))
    refine wpQuiet_nil ?_
    intro w5 hb5
    go_wp2
    go_ret
    exact ⟨rfl, grown_below h0 hb5 h0.size⟩
set_option maxHeartbeats 2000000 in
theorem cost_any (h : Hd) (A : Option Addr) (n c : Nat) (w : World) (hq : h.1 = 0 ∨ h.1 = 1 ∨ h.1 = 2) (hn : n ≤ 1000000) (hK : Kd w) :
    Calls Tryd.prog 32 #[.agg (StC h (.slice A n c))] w fun e w' => e = .returned (.int .i64 (baseZ h.1 + 3 * (n : Int))) ∧ Below w.heap.size w w' := by
  obtain ⟨q, p, e, s⟩ := h
  simp only at hq
  have km : IntKind.i64.wrap (3 * (n : Int)) = 3 * (n : Int) := IntWalk.i64_in _ (by omega)
  have km2 : wrap64 (3 * (n : Int)) = 3 * (n : Int) := IntWalk.wrap64_in _ (by omega)
  have ka : ∀ z : Int, 0 ≤ z → z ≤ 4 → IntKind.i64.wrap (z + 3 * (n : Int)) = z + 3 * (n : Int) := fun z h1 h2 => IntWalk.i64_in _ (by omega)
  have k1 := ka 1 (by omega) (by omega)
  have k2 := ka 2 (by omega) (by omega)
  have k4 := ka 4 (by omega) (by omega)
  rcases hq with rfl | rfl | rfl
  · have h0 := (Below.refl w.heap.size w).alloc (Nat.le_refl _) (.cells (StC (0, p, e, s) (.slice A n c)) 31)
    have a3 := Row.new w 31 (StC (0, p, e, s) (.slice A n c))
    have hk := (hK.below h0).cells
    have d0 := cell_q (show (w.alloc (.cells (StC (0, p, e, s) (.slice A n c)) 31)).cell? ⟨w.heap.size, 0, none⟩ = some (.int .i8 0) from Row.cell a3 0)
    have d4 := cell_q (show (w.alloc (.cells (StC (0, p, e, s) (.slice A n c)) 31)).cell? ⟨w.heap.size, 4, none⟩ = some (.slice A n c) from Row.cell a3 4)
    have dk := cell_q hk.1
    clear hk a3 hK ka
    show Calls _ _ _ _ fun e w' => e = .returned (.int .i64 (1 + 3 * (n : Int))) ∧ Below w.heap.size w w'
    go_enter Tryd.func32, Tryd.ntmps32
    go_wp2_with fail
    generalize w.alloc _ = w1 at *
    refine wp_region_calm (by kernel_rfl) (by kernel_rfl) ?_
    repeat (quiet_step (fail))
    refine wpQuiet_nil ?_
    intro w5 hb5
    go_wp2
    go_ret
    exact ⟨rfl, grown_below h0 hb5 h0.size⟩
  · have h0 := (Below.refl w.heap.size w).alloc (Nat.le_refl _) (.cells (StC (1, p, e, s) (.slice A n c)) 31)
    have a3 := Row.new w 31 (StC (1, p, e, s) (.slice A n c))
    have hk := (hK.below h0).cells
    have d0 := cell_q (show (w.alloc (.cells (StC (1, p, e, s) (.slice A n c)) 31)).cell? ⟨w.heap.size, 0, none⟩ = some (.int .i8 1) from Row.cell a3 0)
    have d4 := cell_q (show (w.alloc (.cells (StC (1, p, e, s) (.slice A n c)) 31)).cell? ⟨w.heap.size, 4, none⟩ = some (.slice A n c) from Row.cell a3 4)
    have dk := cell_q hk.2.1
    clear hk a3 hK ka
    show Calls _ _ _ _ fun e w' => e = .returned (.int .i64 (2 + 3 * (n : Int))) ∧ Below w.heap.size w w'
    go_enter Tryd.func32, Tryd.ntmps32
    go_wp2_with fail
    generalize w.alloc _ = w1 at *
    refine wp_region_calm (by kernel_rfl) (by kernel_rfl) ?_
    repeat (quiet_step (fail))
    refine wpQuiet_nil ?_
    intro w5 hb5
    go_wp2
    go_ret
    exact ⟨rfl, grown_below h0 hb5 h0.size⟩
  · have h0 := (Below.refl w.heap.size w).alloc (Nat.le_refl _) (.cells (StC (2, p, e, s) (.slice A n c)) 31)
    have a3 := Row.new w 31 (StC (2, p, e, s) (.slice A n c))
    have hk := (hK.below h0).cells
    have d0 := cell_q (show (w.alloc (.cells (StC (2, p, e, s) (.slice A n c)) 31)).cell? ⟨w.heap.size, 0, none⟩ = some (.int .i8 2) from Row.cell a3 0)
    have d4 := cell_q (show (w.alloc (.cells (StC (2, p, e, s) (.slice A n c)) 31)).cell? ⟨w.heap.size, 4, none⟩ = some (.slice A n c) from Row.cell a3 4)
    have dk := cell_q hk.2.2
    clear hk a3 hK ka
    show Calls _ _ _ _ fun e w' => e = .returned (.int .i64 (4 + 3 * (n : Int))) ∧ Below w.heap.size w w'
    go_enter Tryd.func32, Tryd.ntmps32
    go_wp2_with fail
    generalize w.alloc _ = w1 at *
    refine wp_region_calm (by kernel_rfl) (by kernel_rfl) ?_
    repeat (quiet_step (fail))
    refine wpQuiet_nil ?_
    intro w5 hb5
    go_wp2
    go_ret
    exact ⟨rfl, grown_below h0 hb5 h0.size⟩
set_option maxHeartbeats 1000000 in
theorem specSum_any (v : Value) (L : List Stp) (w : World) (hn : szN L ≤ 1000000) (ho : okSts L = true) (h : StsAt w w.heap.size v L) :
    Calls Tryd.prog 35 #[v] w fun e w' => e = .returned (.int .i64 (sumZ L L.length)) ∧ Below w.heap.size w w' := by
  have hll := szN_len L
  obtain ⟨A, c, rfl, h1, h2, hA⟩ := h
  unfold maxLen at h2
  go_enter Tryd.func35, Tryd.ntmps35
  go_wp2
  go_loopw [3, 4] (fun s i wr => ∃ k : Nat, k ≤ L.length ∧ i = .int .i64 k ∧ s = .int .i64 (sumZ L k) ∧ Below w.heap.size w wr) (fun _ i _ => L.length - (intOf i).toNat)
  case atStart => exact ⟨0, by omega, rfl, rfl, Below.refl _ _⟩
  case round =>
    obtain ⟨k, hk, rfl, rfl, hb⟩ := hrel
    by_cases hlt : k < L.length
    · obtain ⟨b1, o1, rfl, hb1, r1⟩ := hA (by omega)
      obtain ⟨z, r, sz⟩ := r1 k hlt
      have hrow := szN_row L hlt
      obtain ⟨A2, c2, rfl⟩ := sz.form
      have cS := specCost_any b1 (o1 + k * 5) (tAt L k).1 A2 (tAt L k).2.length c2 wr (okSts_how ho hlt) (by omega) (range_below r hb hb1) (Nat.lt_of_lt_of_le hb1 hb.size)
      have hs := sumZ_in L k
      have hs1 := sumZ_in L (k + 1)
      have hrm : rowsN L (k + 1) ≤ rowsN L L.length := rowsN_mono L hlt
      have hrk : rowsN L (k + 1) = rowsN L k + (tAt L k).2.length := rfl
      have e1 : sumZ L k + (baseZ (tAt L k).1.1 + 3 * ((tAt L k).2.length : Int)) = sumZ L (k + 1) := rfl
      have kw : IntKind.i64.wrap (sumZ L k + (baseZ (tAt L k).1.1 + 3 * ((tAt L k).2.length : Int))) = sumZ L (k + 1) := by rw [e1]; exact IntWalk.i64_in _ (by unfold szN at hn; omega)
      clear hA r1 r sz e1
      generalize baseZ (tAt L k).1.1 + 3 * ((tAt L k).2.length : Int) = z2 at *
      go_wp2_with (go_at_call 30; refine cS.mono ?_; rintro e w2 ⟨rfl, hb2⟩; replace hb := grown_below hb hb2 hb.size)
      go_roundw
      case rel =>
        go_light
        exact ⟨k + 1, by omega, by go_num, rfl, hb⟩
      case measure => simp [intOf]; omega
    · have hkl : k = L.length := by omega
      subst hkl
      clear hA
      go_wp2
      go_ret
      exact ⟨rfl, hb⟩
def scV (L : List Stp) : Int := ifI (okStC L) (sumZ L L.length)
theorem specStepsCost_any (v : Value) (L : List Stp) (w : World) (hL : ltSt L) (hn : szN L ≤ 1000000) (h : StsAt w w.heap.size v L) :
    Calls Tryd.prog 14 #[v] w fun e w' => e = .returned (.tuple #[.int .i64 (scV L), .int .i64 (okStC L)]) ∧ Below w.heap.size w w' := by
  have hll := szN_len L
  have cO := specOkS_any v L w hL (by omega) h
  have cS := fun ho w' (hb : Below w.heap.size w w') => specSum_any v L w' hn ho (h.later hb)
  obtain ⟨A, c, rfl⟩ := h.form
  unfold scV
  clear h
  rcases okStC_cases L with ⟨ho, hc⟩ | ⟨ho, hc⟩
  · rw [hc]
    rw [ho] at cO
    clear cS ho hc
    go_enter Tryd.func14, Tryd.ntmps14
    go_wp2_with (go_at_call 34; refine cO.mono ?_; rintro e w2 ⟨rfl, hb2⟩)
    go_ret2
    exact ⟨rfl, hb2⟩
  · rw [hc, ifI0]
    rw [ho] at cO
    have cS2 := cS ho
    clear cS ho hc
    generalize sumZ L L.length = z at *
    go_enter Tryd.func14, Tryd.ntmps14
    go_wp2_with (first | (go_at_call 34; refine cO.mono ?_; rintro e w2 ⟨rfl, hb2⟩) | (go_at_call 35; refine (cS2 _ hb2).mono ?_; rintro e w3 ⟨rfl, hb3⟩; replace hb2 := grown_below hb2 hb3 hb2.size))
    go_ret2
    exact ⟨rfl, hb2⟩
set_option maxHeartbeats 1000000 in
theorem costOfAll_any (v : Value) (L : List Stp) (w : World) (hn : szN L ≤ 1000000) (ho : okSts L = true) (hK : Kd w) (h : StsAt w w.heap.size v L) :
    Calls Tryd.prog 39 #[v] w fun e w' => e = .returned (.int .i64 (sumZ L L.length)) ∧ Below w.heap.size w w' := by
  have hll := szN_len L
  obtain ⟨A, c, rfl, h1, h2, hA⟩ := h
  unfold maxLen at h2
  go_enter Tryd.func39, Tryd.ntmps39
  go_wp2
  go_loopw [3, 8] (fun s i wr => ∃ k : Nat, k ≤ L.length ∧ i = .int .i64 k ∧ s = .int .i64 (sumZ L k) ∧ Below w.heap.size w wr) (fun _ i _ => L.length - (intOf i).toNat)
  case atStart => exact ⟨0, by omega, rfl, rfl, Below.refl _ _⟩
  case round =>
    obtain ⟨k, hk, rfl, rfl, hb⟩ := hrel
    by_cases hlt : k < L.length
    · obtain ⟨b1, o1, rfl, hb1, r1⟩ := hA (by omega)
      obtain ⟨z, r, sz⟩ := r1 k hlt
      have hrow := szN_row L hlt
      obtain ⟨A2, c2, rfl⟩ := sz.form
      have g1 := range_below r hb hb1
      have cS := fun w' (hb' : Below wr.heap.size wr w') => cost_any (tAt L k).1 A2 (tAt L k).2.length c2 w' (okSts_how ho hlt) (by omega) ((hK.below hb).below hb')
      have hs := sumZ_in L k
      have hs1 := sumZ_in L (k + 1)
      have hrm : rowsN L (k + 1) ≤ rowsN L L.length := rowsN_mono L hlt
      have hrk : rowsN L (k + 1) = rowsN L k + (tAt L k).2.length := rfl
      have e1 : sumZ L k + (baseZ (tAt L k).1.1 + 3 * ((tAt L k).2.length : Int)) = sumZ L (k + 1) := rfl
      have kw : IntKind.i64.wrap (sumZ L k + (baseZ (tAt L k).1.1 + 3 * ((tAt L k).2.length : Int))) = sumZ L (k + 1) := by rw [e1]; exact IntWalk.i64_in _ (by unfold szN at hn; omega)
      have hw0 := (Below.refl wr.heap.size wr).alloc (Nat.le_refl _) (.cells (StC (tAt L k).1 (.slice A2 (tAt L k).2.length c2)) 31)
      have g2 : wr.rangeAt b1 (o1 + k * 5) (eSt.c ((tAt L k).1, A2, (tAt L k).2.length, c2)) := g1
      clear hA r1 r sz e1 g1 hs hs1 hrm hrk
      generalize baseZ (tAt L k).1.1 + 3 * ((tAt L k).2.length : Int) = z2 at *
      generalize (tAt L k).1 = hd at *
      generalize (tAt L k).2.length = m at *
      obtain ⟨q, p, e, s⟩ := hd
      unfold StC at hw0
      go_wp2_with (first | (refine wpList_load_el (E := eSt) rfl 31 _ rfl _ _ rfl ((q, p, e, s), A2, m, c2) #[.int .i8 q, .int .i8 p, .int .i8 e, .int .i8 s, .slice A2 m c2] rfl g2 Tryd.underlying31 rfl (by kernel_rfl) ?_) | (go_at_call 32; refine (cS _ hw0).mono ?_; rintro e w2 ⟨rfl, hb2⟩; replace hw0 := grown_below hw0 hb2 hw0.size))
      go_roundw
      case rel =>
        go_light
        exact ⟨k + 1, by omega, by go_num, rfl, grown_below hb hw0 hb.size⟩
      case measure => simp [intOf]; omega
    · have hkl : k = L.length := by omega
      subst hkl
      clear hA
      go_wp2
      go_ret
      exact ⟨rfl, hb⟩
theorem implStepsCost_any (v : Value) (L : List Stp) (w : World) (hL : ltSt L) (hn : szN L ≤ 1000000) (hK : Kd w) (h : StsAt w w.heap.size v L) :
    Calls Tryd.prog 16 #[v] w fun e w' => e = .returned (.tuple #[.int .i64 (scV L), .int .i64 (okStC L)]) ∧ Below w.heap.size w w' := by
  have hll := szN_len L
  have cO := implValidSteps_any v L w hL (by omega) h
  have cS := fun ho w' (hb : Below w.heap.size w w') => costOfAll_any v L w' hn ho (hK.below hb) (h.later hb)
  obtain ⟨A, c, rfl⟩ := h.form
  unfold scV
  clear h
  rcases okStC_cases L with ⟨ho, hc⟩ | ⟨ho, hc⟩
  · rw [hc]
    rw [ho] at cO
    clear cS ho hc
    go_enter Tryd.func16, Tryd.ntmps16
    go_wp2_with (go_at_call 38; refine cO.mono ?_; rintro e w2 ⟨rfl, hb2⟩)
    go_ret2
    exact ⟨rfl, hb2⟩
  · rw [hc, ifI0]
    rw [ho] at cO
    have cS2 := cS ho
    clear cS ho hc
    generalize sumZ L L.length = z at *
    go_enter Tryd.func16, Tryd.ntmps16
    go_wp2_with (first | (go_at_call 38; refine cO.mono ?_; rintro e w2 ⟨rfl, hb2⟩) | (go_at_call 39; refine (cS2 _ hb2).mono ?_; rintro e w3 ⟨rfl, hb3⟩; replace hb2 := grown_below hb2 hb3 hb2.size))
    go_ret2
    exact ⟨rfl, hb2⟩
end Go.Proofs.YtjbjbdkmomkclaaDoor
