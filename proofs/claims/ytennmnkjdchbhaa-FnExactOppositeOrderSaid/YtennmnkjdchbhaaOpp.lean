/- OppositeOrder: spec and impl. -/
import Derived.Test.YtennmnkjdchbhaaIOrd
import Derived.Test.YtennmnkjdchbhaaLI64
namespace Go.Proofs.Ytennmnkjdchbhaa
set_option maxRecDepth 100000
open Go.RowKit
set_option linter.unusedVariables false
set_option linter.unusedSimpArgs false
theorem infoI64R' : (Try.prog.info? 2).map (fun i => (i.zero, i.size, i.bytes)) = some (some (.int .i64 0), 1, 8) := by kernel_rfl
set_option maxHeartbeats 1000000 in
theorem specOppositeOrder_any (v : Value) (O : List Int) (w : World) (h : SlAt (eI .i64) w w.heap.size v O) :
    Calls Try.prog 26 #[v] w (GivesL (eI .i64) 2 (ifL (opC O) (oppL O)) (opC O) w) := by
  obtain ⟨i0, hi, hz0, hz1, hz2⟩ := info_parts infoI64R'
  have h2 := h
  obtain ⟨A, c, rfl, h1, h3, hA⟩ := h
  unfold maxLen at h3
  have hr := Below.refl w.heap.size w
  rcases opC_cases O with ⟨hl, hc⟩ | ⟨hl, hi1, hc⟩ | ⟨hl, hi1, hc⟩
  · rw [hc, ifL1 _ (by decide)]
    clear hc h2 hA hi hz0 hz1 hz2
    go_enter Try.func26, Try.ntmps26
    go_wp2
    go_ret2
    exact ⟨_, rfl, OwnL.made (E := eI .i64) w w.heap.size 2 hr.size, hr.alloc hr.size _⟩
  · have cL := l04Order_any _ O O.length w (by omega) h2
    rw [hi1] at cL
    rw [hc, ifL1 _ (by decide)]
    clear hc h2 hA hi hz0 hz1 hz2 hi1
    go_enter Try.func26, Try.ntmps26
    go_wp2_with (go_at_call 47; refine cL.mono ?_; rintro e w1 ⟨rfl, hb1⟩)
    go_ret2
    exact ⟨_, rfl, OwnL.made (E := eI .i64) w1 w.heap.size 2 hb1.size, hb1.alloc hb1.size _⟩
  · have cL := l04Order_any _ O O.length w (by omega) h2
    rw [hi1] at cL
    rw [hc, ifL0]
    have hin := fun i (hi : i < O.length) => isOB_in hi1 hi
    unfold oppL
    have HIN := Lib.hid hin
    have HLN : Hid (∃ n, O.length = n) := Lib.hid ⟨_, rfl⟩
    generalize hn : O.length = n at *
    have HN := Lib.hid hn
    have hmk : ∀ w : World, (Instr.makeSlice 23 (.int .i64 (n : Int)) (.int .i64 (n : Int))).run Try.prog w = .ok (.slice (some ⟨w.heap.size, 0, none⟩) n n) (w.alloc (.cells (madeCells #[.int .i64 0] n) 2)) := fun w => by
      have := run_make (P := Try.prog) w 23 2 i0 _ Try.underlying23 hi hz0 .i64 .i64 (n : Int) (n : Int) (by omega) (by omega) (by rw [hz2]; omega) (by omega)
      rw [hz1, Int.toNat_natCast, Nat.mul_one] at this
      exact this
    have hmade := fun W : World => Held.made (E := eI .i64) W 2 0 #[.int .i64 0] rfl (by decide) n
    simp only [show (eI .i64).n = 1 from rfl, Nat.mul_one] at hmade
    simp only [replicate_tab] at hmade
    have HM := Lib.hid hmade
    clear hc h2 hi hz0 hz1 hz2 hi1 hmade hin HLN hn
    go_enter Try.func26, Try.ntmps26
    go_wp2_with (go_at_call 47; refine cL.mono ?_; rintro e w1 ⟨rfl, hb1⟩)
    clear hmk cL
    have hh := HM.out w1
    have h0 := hb1.alloc hb1.size (.cells (madeCells #[.int .i64 0] n) 2)
    generalize (w1.alloc (.cells (madeCells #[.int .i64 0] n) 2)) = w2 at *
    have hg := hb1.size
    generalize w1.heap.size = g at *
    go_loopw [5] (fun i wr => ∃ k : Nat, k ≤ n ∧ i = .int .i64 k ∧ Held (eI .i64) wr g 2 (tab (oppF O k) n) ∧ Below w.heap.size w wr) (fun i _ => n - (intOf i).toNat)
    case atStart => exact ⟨0, by omega, rfl, hh, h0⟩
    case round =>
      clear hh h0
      obtain ⟨k, hk, rfl, hh, hb⟩ := hrel
      by_cases hlt : k < n
      · have hkO : k < O.length := by rw [HN.out]; exact hlt
        obtain ⟨b1, o1, rfl, hbb, r1⟩ := hA (by omega)
        have c1 := int_cell (range_below r1 hb hbb) hkO
        rw [show O.getD k 0 = nAt O k from rfl] at c1
        have hp := HIN.out k hlt
        have hst : ∀ i, oppF O (k + 1) i = if i = (nAt O k).toNat then (k : Int) else oppF O k i := fun i => rfl
        obtain ⟨p, hq⟩ := Int.eq_ofNat_of_zero_le hp.1
        rw [hq] at c1 hp
        simp only [hq, Int.toNat_natCast] at hst
        have hpn : p < n := by omega
        have cq := hh.cell1 (tab_get _ hpn) rfl
        have fq := hh.free p
        have hh' := hh.store1 (k : Int) (i := p) (by rw [tab_length]; omega) rfl
        have hb' := hb.setCell (p := ⟨g, p, none⟩) hg (.int .i64 (k : Int))
        have HH := Lib.hid hh'
        have HB := Lib.hid hb'
        have HST := Lib.hid hst
        have hz : k < n + 1 := by omega
        clear hA r1 hst hp hq hh hb hh' hb' hkO
        have hOl : k < O.length := by rw [HN.out]; exact hlt
        go_wp2
        go_roundw
        case rel =>
          go_light
          exact ⟨k + 1, by omega, by go_num, HH.out.store_tab (fun i _ => (HST.out i).symm), HB.out⟩
        case measure => simp [intOf]; omega
      · have hkn : k = n := by omega
        have hnl : O.length ≤ k := by rw [HN.out]; omega
        subst hkn
        clear hA
        go_wp2
        go_ret2
        refine ⟨_, rfl, ?_, hb⟩
        have := OwnL.of_held (n := k) hh hg (by rw [tab_length]; unfold maxLen; omega) (by rw [tab_length]; omega)
        rw [tab_length, List.take_of_length_le (by rw [tab_length]; omega)] at this
        exact this
set_option maxHeartbeats 1000000 in
theorem implOppositeOrder_any (v : Value) (O : List Int) (w : World) (h : SlAt (eI .i64) w w.heap.size v O) :
    Calls Try.prog 27 #[v] w (GivesL (eI .i64) 2 (ifL (opC O) (oppL O)) (opC O) w) := by
  obtain ⟨i0, hi, hz0, hz1, hz2⟩ := info_parts infoI64R'
  have h2 := h
  obtain ⟨A, c, rfl, h1, h3, hA⟩ := h
  unfold maxLen at h3
  have hr := Below.refl w.heap.size w
  rcases opC_cases O with ⟨hl, hc⟩ | ⟨hl, hi1, hc⟩ | ⟨hl, hi1, hc⟩
  · rw [hc, ifL1 _ (by decide)]
    clear hc h2 hA hi hz0 hz1 hz2
    go_enter Try.func27, Try.ntmps27
    go_wp2
    go_ret2
    exact ⟨_, rfl, OwnL.nil_ _ _ _, hr⟩
  · have cL := isOrder_any _ O O.length w (by omega) h2
    rw [hi1] at cL
    rw [hc, ifL1 _ (by decide)]
    clear hc h2 hA hi hz0 hz1 hz2 hi1
    go_enter Try.func27, Try.ntmps27
    go_wp2_with (go_at_call 50; refine cL.mono ?_; rintro e w1 ⟨rfl, hb1⟩)
    go_ret2
    exact ⟨_, rfl, OwnL.nil_ _ _ _, hb1⟩
  · have cL := isOrder_any _ O O.length w (by omega) h2
    rw [hi1] at cL
    rw [hc, ifL0]
    have hin := fun i (hi : i < O.length) => isOB_in hi1 hi
    unfold oppL
    have HIN := Lib.hid hin
    have HLN : Hid (∃ n, O.length = n) := Lib.hid ⟨_, rfl⟩
    generalize hn : O.length = n at *
    have HN := Lib.hid hn
    have hmk : ∀ w : World, (Instr.makeSlice 23 (.int .i64 (n : Int)) (.int .i64 (n : Int))).run Try.prog w = .ok (.slice (some ⟨w.heap.size, 0, none⟩) n n) (w.alloc (.cells (madeCells #[.int .i64 0] n) 2)) := fun w => by
      have := run_make (P := Try.prog) w 23 2 i0 _ Try.underlying23 hi hz0 .i64 .i64 (n : Int) (n : Int) (by omega) (by omega) (by rw [hz2]; omega) (by omega)
      rw [hz1, Int.toNat_natCast, Nat.mul_one] at this
      exact this
    have hmade := fun W : World => Held.made (E := eI .i64) W 2 0 #[.int .i64 0] rfl (by decide) n
    simp only [show (eI .i64).n = 1 from rfl, Nat.mul_one] at hmade
    simp only [replicate_tab] at hmade
    have HM := Lib.hid hmade
    clear hc h2 hi hz0 hz1 hz2 hi1 hmade hin HLN hn
    go_enter Try.func27, Try.ntmps27
    go_wp2_with (go_at_call 50; refine cL.mono ?_; rintro e w1 ⟨rfl, hb1⟩)
    clear hmk cL
    have hh := HM.out w1
    have h0 := hb1.alloc hb1.size (.cells (madeCells #[.int .i64 0] n) 2)
    generalize (w1.alloc (.cells (madeCells #[.int .i64 0] n) 2)) = w2 at *
    have hg := hb1.size
    generalize w1.heap.size = g at *
    go_loopw [5, 6, 20] (fun _ _ i wr => ∃ k : Nat, k ≤ n ∧ i = .int .i64 k ∧ Held (eI .i64) wr g 2 (tab (oppF O k) n) ∧ Below w.heap.size w wr) (fun _ _ i _ => n - (intOf i).toNat)
    case atStart => exact ⟨0, by omega, rfl, hh, h0⟩
    case round =>
      clear hh h0
      obtain ⟨k, hk, rfl, hh, hb⟩ := hrel
      by_cases hlt : k < n
      · have hkO : k < O.length := by rw [HN.out]; exact hlt
        obtain ⟨b1, o1, rfl, hbb, r1⟩ := hA (by omega)
        have c1 := int_cell (range_below r1 hb hbb) hkO
        rw [show O.getD k 0 = nAt O k from rfl] at c1
        have hp := HIN.out k hlt
        have hst : ∀ i, oppF O (k + 1) i = if i = (nAt O k).toNat then (k : Int) else oppF O k i := fun i => rfl
        obtain ⟨p, hq⟩ := Int.eq_ofNat_of_zero_le hp.1
        rw [hq] at c1 hp
        simp only [hq, Int.toNat_natCast] at hst
        have hpn : p < n := by omega
        have cq := hh.cell1 (tab_get _ hpn) rfl
        have fq := hh.free p
        have hh' := hh.store1 (k : Int) (i := p) (by rw [tab_length]; omega) rfl
        have hb' := hb.setCell (p := ⟨g, p, none⟩) hg (.int .i64 (k : Int))
        have HH := Lib.hid hh'
        have HB := Lib.hid hb'
        have HST := Lib.hid hst
        have hz : k < n + 1 := by omega
        clear hA r1 hst hp hq hh hb hh' hb' hkO
        have hOl : k < O.length := by rw [HN.out]; exact hlt
        go_wp2
        go_roundw
        case rel =>
          go_light
          exact ⟨k + 1, by omega, by go_num, HH.out.store_tab (fun i _ => (HST.out i).symm), HB.out⟩
        case measure => simp [intOf]; omega
      · have hkn : k = n := by omega
        have hnl : O.length ≤ k := by rw [HN.out]; omega
        subst hkn
        clear hA
        go_wp2
        go_ret2
        refine ⟨_, rfl, ?_, hb⟩
        have := OwnL.of_held (n := k) hh hg (by rw [tab_length]; unfold maxLen; omega) (by rw [tab_length]; omega)
        rw [tab_length, List.take_of_length_le (by rw [tab_length]; omega)] at this
        exact this
theorem op_if_len (O : List Int) : (ifL (opC O) (oppL O)).length ≤ 1000 := by
  rcases opC_cases O with ⟨hl, hc⟩ | ⟨hl, hi1, hc⟩ | ⟨hl, hi1, hc⟩
  · rw [hc, ifL1 _ (by decide)]; simp
  · rw [hc, ifL1 _ (by decide)]; simp
  · rw [hc, ifL0]; unfold oppL; rw [tab_length]; omega
end Go.Proofs.Ytennmnkjdchbhaa
