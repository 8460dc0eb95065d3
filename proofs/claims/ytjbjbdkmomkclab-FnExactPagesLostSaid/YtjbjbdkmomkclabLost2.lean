/- LOST PAGES: PagesLost: spec and impl. -/
import Derived.Test.YtjbjbdkmomkclabLost
import Derived.Test.YtjbjbdkmomkclabSBook
namespace Go.Proofs.Ytjbjbdkmomkclab
set_option maxRecDepth 100000
open Go.RowKit
set_option linter.unusedVariables false
set_option linter.unusedSimpArgs false
set_option maxHeartbeats 2000000 in
theorem specLost_any (v : Value) (L : List Stp) (p : Int) (w : World) (hL : ltSt L) (hn : L.length ≤ 1000000) (h : StsAt w w.heap.size v L) :
    Calls Try.prog 27 #[v, .int .i64 p] w (GivesL (eI .i64) 2 (ifL (asZ L p) (lostL L p)) (asZ L p) w) := by
  have cA := specAsked_any v L p w hL hn h
  rcases asZ_cases L p with ⟨ho, hc⟩ | ⟨ho, hp, hc⟩ | ⟨ho, hp, hc⟩
  · rw [hc] at cA
    rw [hc, ifL1 _ (by decide)]
    obtain ⟨A, c, rfl⟩ := h.form
    clear h ho hc
    go_enter Try.func27, Try.ntmps27
    go_wp2_with (go_at_call 63; refine cA.mono ?_; rintro e w2 ⟨rfl, hb2⟩; have hm := OwnL.made (E := (eI .i64)) w2 w.heap.size 2 hb2.size; replace hb2 := hb2.alloc hb2.size (.cells #[] 2))
    go_ret2
    exact ⟨_, rfl, hm, hb2⟩
  · rw [hc] at cA
    rw [hc, ifL1 _ (by decide)]
    obtain ⟨A, c, rfl⟩ := h.form
    clear h ho hc hp
    go_enter Try.func27, Try.ntmps27
    go_wp2_with (go_at_call 63; refine cA.mono ?_; rintro e w2 ⟨rfl, hb2⟩; have hm := OwnL.made (E := (eI .i64)) w2 w.heap.size 2 hb2.size; replace hb2 := hb2.alloc hb2.size (.cells #[] 2))
    go_ret2
    exact ⟨_, rfl, hm, hb2⟩
  · rw [hc] at cA
    rw [hc, ifL0]
    obtain ⟨P, rfl⟩ := Int.eq_ofNat_of_zero_le hp.1
    have hP : P < L.length := by omega
    unfold lostL
    rw [Int.toNat_natCast]
    have hq40 := (okSts_iff.1 ho).1
    obtain ⟨A, c, rfl, h1, h2, hA⟩ := h
    obtain ⟨b1, o1, rfl, hb1, r1⟩ := hA (by omega)
    unfold maxLen at h2
    have R1 := Lib.hid r1
    have hl1 : lsL L P 1 = [(P : Int)] := by
      have := lsL_yes (L := L) (p := P) (m := 0) (memB_iff.2 (chL_self L P))
      rw [this]; rfl
    have kp : IntKind.i64.wrap ((P : Int) + 1) = ((P + 1 : Nat) : Int) := by rw [IntWalk.i64_in _ (by omega)]; omega
    clear hA r1 hc hp
    go_enter Try.func27, Try.ntmps27
    go_wp2_with (go_at_call 63; refine cA.mono ?_; rintro e w2 ⟨rfl, hb2⟩; have hm := OwnL.of_held (E := (eI .i64)) (L := [(P : Int)]) (base := w.heap.size) (Row.new w2 2 _ : Held (eI .i64) (w2.alloc (.cells ((eI .i64).cells [(P : Int)]).toArray 2)) w2.heap.size 2 [(P : Int)]) hb2.size (n := 1) (by unfold maxLen; simp) (by simp); replace hb2 := hb2.alloc hb2.size (.cells ((eI .i64).cells [(P : Int)]).toArray 2); have hm2 : OwnL (eI .i64) (w2.alloc (.cells #[.int .i64 (P : Int)] 2)) w.heap.size 2 (.slice (some ⟨w2.heap.size, 0, none⟩) 1 1) (lsL L P 1) := (by rw [hl1]; exact hm); have hb3 : Below w.heap.size w (w2.alloc (.cells #[.int .i64 (P : Int)] 2)) := hb2; clear hm hb2)
    generalize w2.alloc _ = w3 at *
    go_loopw [7, 8] (fun u i wr => ∃ m : Nat, 1 ≤ m ∧ P + m ≤ L.length ∧ i = .int .i64 ((P + m : Nat) : Int) ∧ OwnL (eI .i64) wr w.heap.size 2 u (lsL L P m) ∧ Below w.heap.size w wr) (fun _ i _ => L.length - (intOf i).toNat)
    case atStart => exact ⟨1, by omega, by omega, rfl, hm2, hb3⟩
    case round =>
      clear hm2 hb3
      obtain ⟨m, hm1, hm, rfl, hown, hb⟩ := hrel
      have hll := lsL_len L P m
      by_cases hlt : P + m < L.length
      · obtain ⟨z, r, sz⟩ := R1.out (P + m) hlt
        have g := range_below r hb hb1
        have c0 := st_cell0 g
        have c1 := st_cell1 g
        have hlt8 := (tAt_lt hL (P + m)).1.2.1
        have kn : IntKind.i64.wrap (((P + m : Nat) : Int) + 1) = ((P + (m + 1) : Nat) : Int) := by rw [IntWalk.i64_in _ (by omega)]; omega
        clear r sz g
        by_cases hw : (tAt L (P + m)).1.1 = 0
        · have d0 : ((tAt L (P + m)).1.1 != 0) = false := by simp [hw]
          have HN := Lib.hid (ls_end hm1 hw)
          clear hw R1
          generalize (tAt L (P + m)).1 = hd at *
          generalize hi : P + m = i at *
          go_wp2
          go_roundw
          case rel =>
            go_light
            exact ⟨m + 1, by omega, by omega, rfl, by rw [HN.out]; exact hown, hb⟩
          case measure => simp [intOf]; omega
        · have d0 : ((tAt L (P + m)).1.1 != 0) = true := by simpa using hw
          have hbs := ls_base ho hm1 hlt hw
          have kw : IntKind.i64.wrap (tAt L (P + m)).1.2.1 = (tAt L (P + m)).1.2.1 := IntWalk.i64_in _ (by omega)
          have cH := hasI_any _ (lsL L P m) (tAt L (P + m)).1.2.1 wr (hown.sl (by decide))
          cases hB : memB (lsL L P m) (tAt L (P + m)).1.2.1 with
          | true =>
            rw [hB] at cH hbs
            have HY := Lib.hid (lsL_yes hbs)
            clear hw R1 hbs hB
            generalize (tAt L (P + m)).1 = hd at *
            obtain ⟨x0, x1, x2, x3⟩ := hd
            simp only at d0 c0 c1 kw cH
            generalize hi : P + m = i at *
            go_wp2_with (first | (go_at_call 64; refine cH.mono ?_; rintro e w' ⟨rfl, rfl⟩) | (at_builtin; refine wpList_append_one rfl _ _ 38 rfl w.heap.size 2 Try.underlying38 infoI64 rfl (by decide) (by omega) (hown.alloc _) rfl (i : Int) rfl (range_new _ _ _) (by omega) (by have := hb.size; simp <;> omega) ?_; intro v' w4 hown' hgrow))
            go_roundw
            case rel =>
              go_light
              refine ⟨m + 1, by omega, by omega, rfl, ?_, (hown.alloc _).grown_below (hb.alloc hb.size _) hgrow (Nat.le_refl _) (by have := hb.size; simp <;> omega)⟩
              rw [HY.out]; exact hown'
            case measure => simp [intOf]; omega
          | false =>
            rw [hB] at cH hbs
            have HN := Lib.hid (lsL_no hbs)
            clear hw R1 hbs hB
            generalize (tAt L (P + m)).1 = hd at *
            obtain ⟨x0, x1, x2, x3⟩ := hd
            simp only at d0 c0 c1 kw cH
            generalize hi : P + m = i at *
            go_wp2_with (go_at_call 64; refine cH.mono ?_; rintro e w' ⟨rfl, rfl⟩)
            go_roundw
            case rel =>
              go_light
              exact ⟨m + 1, by omega, by omega, rfl, by rw [HN.out]; exact hown, hb⟩
            case measure => simp [intOf]; omega
      · have hml : m = L.length - P := by omega
        have hPm : P + m = L.length := by omega
        rw [hml] at hown
        rw [hPm]
        clear hml hPm
        clear R1
        go_wp2
        go_ret2
        exact ⟨_, rfl, hown, hb⟩
set_option maxHeartbeats 2000000 in
theorem implLost_any (v : Value) (L : List Stp) (p : Int) (w : World) (hL : ltSt L) (hn : L.length ≤ 1000000) (h : StsAt w w.heap.size v L) :
    Calls Try.prog 28 #[v, .int .i64 p] w (GivesL (eI .i64) 2 (ifL (asZ L p) (lostL L p)) (asZ L p) w) := by
  have cA := checkStep_any v L p w hL hn h
  rcases asZ_cases L p with ⟨ho, hc⟩ | ⟨ho, hp, hc⟩ | ⟨ho, hp, hc⟩
  · rw [hc] at cA
    rw [hc, ifL1 _ (by decide)]
    obtain ⟨A, c, rfl⟩ := h.form
    clear h ho hc
    go_enter Try.func28, Try.ntmps28
    go_wp2_with (go_at_call 65; refine cA.mono ?_; rintro e w2 ⟨rfl, hb2⟩)
    go_ret2
    exact ⟨_, rfl, OwnL.nil_ _ _ _, hb2⟩
  · rw [hc] at cA
    rw [hc, ifL1 _ (by decide)]
    obtain ⟨A, c, rfl⟩ := h.form
    clear h ho hc hp
    go_enter Try.func28, Try.ntmps28
    go_wp2_with (go_at_call 65; refine cA.mono ?_; rintro e w2 ⟨rfl, hb2⟩)
    go_ret2
    exact ⟨_, rfl, OwnL.nil_ _ _ _, hb2⟩
  · rw [hc] at cA
    rw [hc, ifL0]
    obtain ⟨P, rfl⟩ := Int.eq_ofNat_of_zero_le hp.1
    have hP : P < L.length := by omega
    unfold lostL
    rw [Int.toNat_natCast]
    have hq40 := (okSts_iff.1 ho).1
    have cN := fun (q : Nat) (hq : q < L.length) w' (hb : Below w.heap.size w w') => needed_any v L q w' ho hq (h.later hb)
    obtain ⟨A, c, rfl⟩ := h.form
    have CN := Lib.hid cN
    clear h hc hp cN
    go_enter Try.func28, Try.ntmps28
    go_wp2_with (go_at_call 65; refine cA.mono ?_; rintro e w2 ⟨rfl, hb2⟩; have hm := OwnL.nil_ (E := (eI .i64)) w2 w.heap.size 2)
    go_loopw [7, 8] (fun u i wr => ∃ m : Nat, P + m ≤ L.length ∧ i = .int .i64 ((P + m : Nat) : Int) ∧ OwnL (eI .i64) wr w.heap.size 2 u (lsL L P m) ∧ Below w.heap.size w wr) (fun _ i _ => L.length - (intOf i).toNat)
    case atStart => exact ⟨0, by omega, rfl, hm, hb2⟩
    case round =>
      clear hm hb2
      obtain ⟨m, hm, rfl, hown, hb⟩ := hrel
      have hll := lsL_len L P m
      by_cases hlt : P + m < L.length
      · have cQ := CN.out (P + m) hlt wr hb
        have kn : IntKind.i64.wrap (((P + m : Nat) : Int) + 1) = ((P + (m + 1) : Nat) : Int) := by rw [IntWalk.i64_in _ (by omega)]; omega
        have HY := Lib.hid (fun hh => lsL_yes (L := L) (p := P) (m := m) hh)
        have HN := Lib.hid (fun hh => lsL_no (L := L) (p := P) (m := m) hh)
        generalize chL L (P + m) = ch at *
        generalize hi : P + m = i at *
        go_wp2_with fail
        refine cQ.mono ?_
        rintro e w3 ⟨u2, rfl, hown2, hb3⟩
        replace hown := hown.below hb3
        replace hb := grown_below hb hb3 hb.size
        have cC := contains_any u2 ch (P : Int) w3 (hown2.sl (by decide))
        obtain ⟨A2, c2, rfl⟩ := hown2.val
        clear hb3 hown2 cQ
        cases hB : memB ch (P : Int) with
        | true =>
          rw [hB] at cC
          go_wp2_with (first | (go_at_call 66; refine cC.mono ?_; rintro e w' ⟨rfl, rfl⟩) | (at_builtin; refine wpList_append_one rfl _ _ 38 rfl w.heap.size 2 Try.underlying38 infoI64 rfl (by decide) (by omega) (hown.alloc _) rfl (i : Int) rfl (range_new _ _ _) (by omega) (by have := hb.size; simp <;> omega) ?_; intro v' w4 hown' hgrow))
          go_roundw
          case rel =>
            go_light
            refine ⟨m + 1, by omega, rfl, ?_, (hown.alloc _).grown_below (hb.alloc hb.size _) hgrow (Nat.le_refl _) (by have := hb.size; simp <;> omega)⟩
            rw [HY.out hB]; exact hown'
          case measure => simp [intOf]; omega
        | false =>
          rw [hB] at cC
          go_wp2_with (go_at_call 66; refine cC.mono ?_; rintro e w' ⟨rfl, rfl⟩)
          go_roundw
          case rel =>
            go_light
            exact ⟨m + 1, by omega, rfl, by rw [HN.out hB]; exact hown, hb⟩
          case measure => simp [intOf]; omega
      · have hml : m = L.length - P := by omega
        have hPm : P + m = L.length := by omega
        rw [hml] at hown
        rw [hPm]
        clear hml hPm
        go_wp2
        go_ret2
        exact ⟨_, rfl, hown, hb⟩
end Go.Proofs.Ytjbjbdkmomkclab
