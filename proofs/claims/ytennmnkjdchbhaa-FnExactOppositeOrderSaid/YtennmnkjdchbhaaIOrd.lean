/- ORDERS. impl: isOrder, IsOrder, checkOrder, inOrder, ReorderBook, OrderJumps. -/
import Derived.Test.YtennmnkjdchbhaaSOrd2
import Derived.Test.YtennmnkjdchbhaaIJumps
namespace Go.Proofs.Ytennmnkjdchbhaa
set_option maxRecDepth 100000
open Go.RowKit
set_option linter.unusedVariables false
set_option linter.unusedSimpArgs false
def eB : Enc Bool := ⟨fun b => [.bool b], 1, fun _ => rfl, fun z v hv => by simp at hv; subst hv; rfl⟩
theorem infoB : (Try.prog.info? 4).map (fun i => (i.zero, i.size, i.bytes)) = some (some (.bool false), 1, 1) := by kernel_rfl
/-- What has been found among the first k numbers. -/
def fnd (O : List Int) (k p : Nat) : Bool := memI (O.take k) p
theorem fnd_zero (O : List Int) (p : Nat) : fnd O 0 p = false := by simp [fnd, memI]
theorem fnd_succ {O : List Int} {k : Nat} (hk : k < O.length) {q : Nat} (hq : nAt O k = q) (p : Nat) : fnd O (k + 1) p = updA (fnd O k) q true p := by
  unfold updA fnd
  rw [Bool.eq_iff_iff]
  by_cases e : p = q
  · subst e
    rw [if_pos rfl, memI_iff, mem_take_succ hk]
    simp [hq]
  · rw [if_neg e, memI_iff, memI_iff, mem_take_succ hk]
    constructor
    · rintro (h | h)
      · exact h
      · rw [hq] at h; omega
    · exact .inl
set_option maxHeartbeats 1000000 in
theorem isOrder_any (v : Value) (O : List Int) (n : Nat) (w : World) (hn : n ≤ 1000000) (h : SlAt (eI .i64) w w.heap.size v O) :
    Calls Try.prog 50 #[v, .int .i64 n] w fun e w' => e = .returned (.bool (isOB n O)) ∧ Below w.heap.size w w' := by
  obtain ⟨i0, hi, hz0, hz1, hz2⟩ := info_parts infoB
  obtain ⟨A, c, rfl, h1, h2, hA⟩ := h
  unfold maxLen at h2
  by_cases hl : O.length = n
  · have e1 : ((O.length : Int) != (n : Int)) = false := by simp [hl]
    have HL := Lib.hid hl
    have hmk : ∀ w : World, (Instr.makeSlice 97 (.int .i64 (n : Int)) (.int .i64 (n : Int))).run Try.prog w = .ok (.slice (some ⟨w.heap.size, 0, none⟩) n n) (w.alloc (.cells (madeCells #[.bool false] n) 4)) := fun w => by
      have := run_make (P := Try.prog) w 97 4 i0 _ Try.underlying97 hi hz0 .i64 .i64 (n : Int) (n : Int) (by omega) (by omega) (by rw [hz2]; omega) (by omega)
      rw [hz1, Int.toNat_natCast, Nat.mul_one] at this
      exact this
    have hmade := Held.made (E := eB) w 4 false #[.bool false] rfl (by decide) n
    simp only [show eB.n = 1 from rfl, Nat.mul_one] at hmade
    rw [replicate_tab] at hmade
    have h0 := (Below.refl w.heap.size w).alloc (Nat.le_refl _) (.cells (madeCells #[.bool false] n) 4)
    clear hl hi hz0 hz1 hz2
    go_enter Try.func50, Try.ntmps50
    go_wp2
    clear hmk
    generalize (w.alloc (.cells (madeCells #[.bool false] n) 4)) = w1 at *
    go_loopw [7, 16] (fun _ i wr => ∃ k : Nat, k ≤ n ∧ i = .int .i64 k ∧ (∀ j, j < k → ordAt n O j = true) ∧ Held eB wr w.heap.size 4 (tab (fnd O k) n) ∧ Below w.heap.size w wr) (fun _ i _ => n - (intOf i).toNat)
    case atStart => exact ⟨0, by omega, rfl, by omega, hmade.tab_congr (fun i _ => (fnd_zero O i).symm), h0⟩
    case round =>
      clear hmade h0
      obtain ⟨k, hk, rfl, ho, hh, hb⟩ := hrel
      have HO := Lib.hid ho
      clear ho
      by_cases hlt : k < n
      · have hkO : k < O.length := by rw [HL.out]; exact hlt
        obtain ⟨b1, o1, rfl, hb1, r1⟩ := hA (by omega)
        have c1 := int_cell (range_below r1 hb hb1) hkO
        rw [show O.getD k 0 = nAt O k from rfl] at c1
        have eo : ordAt n O k = (inB (nAt O k) 0 ((n : Int) - 1) && !memI (O.take k) (nAt O k)) := rfl
        have hgo := @fnd_succ O k hkO
        clear hA r1
        by_cases hy1 : nAt O k < 0
        · have hf : ordAt n O k = false := by rw [eo, inB_false.2 (.inl hy1)]; rfl
          have HF := Lib.hid hf
          clear hf eo hgo hh
          generalize nAt O k = y at *
          go_wp2
          go_ret
          exact ⟨ret_bool (isOB_at hlt HF.out).symm, hb⟩
        · by_cases hy2 : (n : Int) ≤ nAt O k
          · have hf : ordAt n O k = false := by rw [eo, inB_false.2 (.inr (by omega))]; rfl
            have HF := Lib.hid hf
            clear hf eo hgo hh
            generalize nAt O k = y at *
            have d1 : decide (y < 0) = false := decide_eq_false hy1
            have d2 : decide ((n : Int) ≤ y) = true := decide_eq_true hy2
            go_wp2
            go_ret
            exact ⟨ret_bool (isOB_at hlt HF.out).symm, hb⟩
          · rw [inB_iff.2 ⟨by omega, by omega⟩, Bool.true_and] at eo
            obtain ⟨q, hq⟩ := Int.eq_ofNat_of_zero_le (show 0 ≤ nAt O k by omega)
            have hgo := hgo hq
            have ef : ordAt n O k = !fnd O k q := by rw [eo, hq]; rfl
            rw [hq] at c1 hy1 hy2
            have hqn : q < n := by omega
            have cq := hh.cell1 (tab_get _ hqn) rfl
            have fq := hh.free q
            clear eo hq
            cases hm : fnd O k q with
            | true =>
              have hf : ordAt n O k = false := by rw [ef, hm]; rfl
              rw [hm] at cq
              have HF := Lib.hid hf
              clear hf ef hm hgo hh
              go_wp2
              go_ret
              exact ⟨ret_bool (isOB_at hlt HF.out).symm, hb⟩
            | false =>
              have hf : ordAt n O k = true := by rw [ef, hm]; rfl
              rw [hm] at cq
              have hh' := hh.store1 true (i := q) (by rw [tab_length]; omega) rfl
              have hb' := hb.setCell (p := ⟨w.heap.size, q, none⟩) (Nat.le_refl _) (.bool true)
              have HF := Lib.hid hf
              have HH := Lib.hid hh'
              have HB := Lib.hid hb'
              have HG := Lib.hid hgo
              clear hf ef hm hgo hh hh' hb'
              go_wp2
              go_roundw
              case rel =>
                go_light
                refine ⟨k + 1, by omega, by go_num, fun j hj => ?_, HH.out.store_tab (fun i _ => (HG.out i).symm), HB.out⟩
                rcases Nat.lt_succ_iff_lt_or_eq.1 hj with h | rfl
                · exact HO.out j h
                · exact HF.out
              case measure => simp [intOf]; omega
      · have hkn : k = n := by omega
        have hnl : O.length ≤ k := by rw [HL.out]; omega
        subst hkn
        clear hA
        go_wp2
        go_ret
        exact ⟨ret_bool (isOB_true HL.out HO.out).symm, hb⟩
  · have e1 : ((O.length : Int) != (n : Int)) = true := by simp; omega
    have HL := Lib.hid hl
    clear hl hi hz0 hz1 hz2
    go_enter Try.func50, Try.ntmps50
    go_wp2
    go_ret
    exact ⟨ret_bool (isOB_len HL.out).symm, Below.refl _ _⟩
set_option maxHeartbeats 1000000 in
theorem implPages_any (v u : Value) (L : List (Nat → Nat)) (O : List Int) (w : World) (hO : ∀ i, i < O.length → 0 ≤ nAt O i ∧ nAt O i < L.length) (hl : O.length ≤ 1000) (h : SlAt eFr w w.heap.size v L) (h2 : SlAt (eI .i64) w w.heap.size u O) :
    Calls Try.prog 54 #[v, u] w (GivesV eFr 50 (pgL L O) w) := by
  obtain ⟨A, c, rfl, h1, h3, hA⟩ := h
  obtain ⟨B, d, rfl, h4, h5, hB⟩ := h2
  unfold maxLen at h3 h5
  have hm := OwnL.nil_ (E := eFr) w w.heap.size 50
  have h0 := Below.refl w.heap.size w
  go_enter Try.func54, Try.ntmps54
  go_wp2
  go_loopw [5, 10] (fun u i wr => ∃ k : Nat, k ≤ O.length ∧ i = .int .i64 k ∧ OwnL eFr wr w.heap.size 50 u (tab (fun i => fAt L (nAt O i).toNat) k) ∧ Below w.heap.size w wr) (fun _ i _ => O.length - (intOf i).toNat)
  case atStart => exact ⟨0, by omega, rfl, hm, h0⟩
  case round =>
    clear hm h0
    obtain ⟨k, hk, rfl, hown, hb⟩ := hrel
    by_cases hlt : k < O.length
    · obtain ⟨b2, o2, rfl, hb2, r2⟩ := hB (by omega)
      have c1 := int_cell (range_below r2 hb hb2) hlt
      rw [show O.getD k 0 = nAt O k from rfl] at c1
      have hp := hO k hlt
      have hst := tab_succ (fun i => fAt L (nAt O i).toNat) k
      obtain ⟨p, hq⟩ := Int.eq_ofNat_of_zero_le hp.1
      rw [hq] at c1 hp hst
      rw [Int.toNat_natCast] at hst
      have hpl : p < L.length := by omega
      obtain ⟨b1, o1, rfl, hb1, r1⟩ := hA (by omega)
      have g1 := range_below (range_part r1 (fAt_get hpl)) hb hb1
      rw [eFr_n] at g1
      have hll : (tab (fun i => fAt L (nAt O i).toNat) k).length ≤ 1000 := by rw [tab_length]; omega
      have HST := Lib.hid hst
      clear hA hB r1 r2 hst hp hq hO
      go_wp2_with (first | (refine wpList_load_at rfl 50 48 _ rfl _ _ rfl g1 Try.underlying50 (by kernel_rfl) ?_) | (refine wpList_build1 (v := .agg (FC (fAt L p))) (cs := FC (fAt L p)) rfl 28 50 _ rfl rfl (fun w => run_build_frs w (fAt L p)) ?_) | (at_builtin; refine wpList_append_one rfl _ _ 28 rfl w.heap.size 50 Try.underlying28 infoFrL rfl (by decide) (by omega) (hown.alloc (.cells (FC (fAt L p)) 50)) rfl (fAt L p) rfl (range_new _ _ (FC (fAt L p))) (by omega) (by have := hb.size; simp; omega) ?_; intro v' w4 hown' hgrow))
      go_roundw
      case rel =>
        go_light
        refine ⟨k + 1, by omega, by go_num, ?_, (hown.alloc _).grown_below (hb.alloc hb.size _) hgrow (Nat.le_refl _) (by have := hb.size; simp; omega)⟩
        rw [HST.out]; exact hown'
      case measure => simp [intOf]; omega
    · have hkl : k = O.length := by omega
      subst hkl
      clear hA hB
      go_wp2
      go_ret
      exact ⟨_, rfl, hown, hb⟩
theorem implIsOrder_any (v u : Value) (L : List (Nat → Nat)) (O : List Int) (w : World) (hL : ltL L) (h : SlAt eFr w w.heap.size v L) (h2 : SlAt (eI .i64) w w.heap.size u O) :
    Calls Try.prog 17 #[v, u] w fun e w' => e = .returned (.tuple #[.bool (isV L O), .int .i64 (okBC L)]) ∧ Below w.heap.size w w' := by
  have cV := implValidBook_any v L w hL h
  obtain ⟨A, c, rfl⟩ := h.form
  unfold isV
  rcases okBC_cases L with ⟨ho, hc⟩ | ⟨ho, hc⟩
  · rw [ho] at cV ⊢
    rw [hc]
    clear ho hc h
    go_enter Try.func17, Try.ntmps17
    go_wp2_with (go_at_call 49; refine cV.mono ?_; rintro e w1 ⟨rfl, hb1⟩)
    go_ret2
    exact ⟨rfl, hb1⟩
  · have hlen := okB_len ho
    have cL := fun (W : World) (hb : Below w.heap.size w W) => isOrder_any u O L.length W (by omega) (h2.later hb)
    rw [ho] at cV ⊢
    rw [hc, Bool.true_and]
    generalize isOB L.length O = q at *
    have CL := Lib.hid cL
    clear ho hc h h2 cL
    go_enter Try.func17, Try.ntmps17
    go_wp2_with (first | (go_at_call 49; refine cV.mono ?_; rintro e w1 ⟨rfl, hb1⟩) | (go_at_call 50; refine (CL.out _ hb1).mono ?_; rintro e w2 ⟨rfl, hb2⟩))
    go_ret2
    exact ⟨rfl, hb1.trans (hb2.mono hb1.size)⟩
theorem checkOrder_any (v u : Value) (L : List (Nat → Nat)) (O : List Int) (w : World) (hL : ltL L) (h : SlAt eFr w w.heap.size v L) (h2 : SlAt (eI .i64) w w.heap.size u O) :
    Calls Try.prog 53 #[v, u] w fun e w' => e = .returned (.int .i64 (orC L O)) ∧ Below w.heap.size w w' := by
  have cI := implIsOrder_any v u L O w hL h h2
  unfold isV okBC at cI
  rcases orC_cases L O with ⟨ho, hc⟩ | ⟨ho, hi, hc⟩ | ⟨ho, hi, hc⟩
  · rw [ho] at cI
    rw [hc]
    simp only [Bool.false_and, Bool.false_eq_true, if_false] at cI
    clear ho hc h h2
    go_enter Try.func53, Try.ntmps53
    go_wp2_with (go_at_call 17; refine cI.mono ?_; rintro e w1 ⟨rfl, hb1⟩)
    go_ret
    exact ⟨rfl, hb1⟩
  all_goals
    rw [ho, hi] at cI
    rw [hc]
    simp only [Bool.true_and, if_true] at cI
    clear ho hc h h2 hi
    go_enter Try.func53, Try.ntmps53
    go_wp2_with (go_at_call 17; refine cI.mono ?_; rintro e w1 ⟨rfl, hb1⟩)
    go_ret
    exact ⟨rfl, hb1⟩
set_option maxHeartbeats 400000 in
theorem implReorderBook_any (v u : Value) (L : List (Nat → Nat)) (O : List Int) (w : World) (hL : ltL L) (h : SlAt eFr w w.heap.size v L) (h2 : SlAt (eI .i64) w w.heap.size u O) :
    Calls Try.prog 21 #[v, u] w (GivesL eFr 50 (ifL (orC L O) (pgL L O)) (orC L O) w) := by
  have cC := checkOrder_any v u L O w hL h h2
  rcases orC_cases L O with ⟨ho, hc⟩ | ⟨ho, hi, hc⟩ | ⟨ho, hi, hc⟩
  case inr.inr =>
    have hlen := okB_len ho
    have hol := (isOB_iff.1 hi).1
    have cP := fun (w1 : World) (hb : Below w.heap.size w w1) => implPages_any v u L O w1 (fun i hi2 => isOB_in hi (by omega)) (by omega) (h.later hb) (h2.later hb)
    rw [hc, ifL0]
    rw [hc] at cC
    have CP := Lib.hid cP
    clear ho hc h h2 hi cP
    go_enter Try.func21, Try.ntmps21
    go_wp2_with (first | (go_at_call 53; refine cC.mono ?_; rintro e w1 ⟨rfl, hb1⟩) | (go_at_call 54; refine (CP.out _ hb1).mono ?_; rintro e w2 ⟨x, rfl, hown, hb2⟩))
    go_ret2
    exact ⟨_, rfl, hown.mono hb1.size, hb1.trans (hb2.mono hb1.size)⟩
  all_goals
    rw [hc, ifL1 _ (by decide)]
    rw [hc] at cC
    clear ho hc h h2
    go_enter Try.func21, Try.ntmps21
    go_wp2_with (go_at_call 53; refine cC.mono ?_; rintro e w1 ⟨rfl, hb1⟩)
    go_ret2
    exact ⟨_, rfl, OwnL.nil_ _ _ _, hb1⟩
theorem or_if_len (L : List (Nat → Nat)) (O : List Int) : (ifL (orC L O) (pgL L O)).length ≤ 1000 := by
  rcases orC_cases L O with ⟨ho, hc⟩ | ⟨ho, hi, hc⟩ | ⟨ho, hi, hc⟩
  · rw [hc, ifL1 _ (by decide)]; simp
  · rw [hc, ifL1 _ (by decide)]; simp
  · rw [hc, ifL0, pgL_len, (isOB_iff.1 hi).1]; have := okB_len ho; omega
set_option maxHeartbeats 400000 in
theorem implOrderJumps_any (v u : Value) (L : List (Nat → Nat)) (O : List Int) (w : World) (hL : ltL L) (h : SlAt eFr w w.heap.size v L) (h2 : SlAt (eI .i64) w w.heap.size u O) :
    Calls Try.prog 31 #[v, u] w fun e w' => e = .returned (.tuple #[.int .i64 (ojV L O), .int .i64 (orC L O)]) ∧ Below w.heap.size w w' := by
  have cR := implReorderBook_any v u L O w hL h h2
  unfold ojV
  rcases orC_cases L O with ⟨ho, hc⟩ | ⟨ho, hi, hc⟩ | ⟨ho, hi, hc⟩
  case inr.inr =>
    have cA := fun (x : Value) (W : World) (hx : SlAt eFr W W.heap.size x (pgL L O)) => implAllJumps_any x (pgL L O) W (pgL_lt hL O) hx
    have hp := pgL_ok ho hi
    unfold allV okBC at cA
    rw [hp] at cA
    simp only [if_true, ifI0] at cA
    rw [hc, ifI0]
    rw [hc, ifL0] at cR
    have CA := Lib.hid cA
    clear ho hc h h2 hi cA hp
    generalize sumI (jumpsL (pgL L O)) = s at *
    go_enter Try.func31, Try.ntmps31
    go_wp2_with (first | (go_at_call 21; refine cR.mono ?_; rintro e w1 ⟨x, rfl, hown, hb1⟩) | (go_at_call 56; refine (CA.out _ _ (hown.sl (by decide))).mono ?_; rintro e w2 ⟨rfl, hb2⟩))
    go_ret2
    exact ⟨rfl, hb1.trans (hb2.mono hb1.size)⟩
  all_goals
    rw [hc, ifI1 _ (by decide)]
    rw [hc, ifL1 _ (by decide)] at cR
    clear ho hc h h2
    go_enter Try.func31, Try.ntmps31
    go_wp2_with (go_at_call 21; refine cR.mono ?_; rintro e w1 ⟨x, rfl, hown, hb1⟩)
    go_ret2
    exact ⟨rfl, hb1⟩
end Go.Proofs.Ytennmnkjdchbhaa
