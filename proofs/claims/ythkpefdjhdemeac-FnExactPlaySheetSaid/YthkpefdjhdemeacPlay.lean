/- PlaySheet: spec and impl. -/
import Derived.Test.YthkpefdjhdemeacTicks
namespace Go.Proofs.Ythkpefdjhdemeac
set_option maxRecDepth 100000
open Go.RowKit
set_option linter.unusedVariables false
set_option linter.unusedSimpArgs false
set_option maxHeartbeats 2000000 in
theorem specPlaySheet_any (v u : Value) (L : List (Nat → Nat)) (S : List (Int × Int)) (w : World) (hS : ltS S) (h : SlAt eFr w w.heap.size v L) (hs : SlAt eSh w w.heap.size u S) :
    Calls Try.prog 36 #[v, u] w (GivesL eFr 63 (ifL (plC L S) (playL L (shownL S))) (plC L S) w) := by
  have cO := specSheet_any v u L S w hS h hs
  have cS := fun (w' : World) (hb : Below w.heap.size w w') (ho : okBS L S = true) => shown_any u L.length S w' (okBS_parts ho).2.2 (okBS_parts ho).2.1 (hs.later hb)
  obtain ⟨A, c, rfl, h1, h2, hA⟩ := h
  obtain ⟨B, d, rfl⟩ := hs.form
  clear hs
  unfold maxLen at h2
  rcases plC_cases L S with ⟨ho, hc⟩ | ⟨ho, h40, hc⟩ | ⟨ho, h40, hc⟩
  · rw [ho] at cO
    rw [hc, ifL1 _ (by decide)]
    clear cS hA ho hc
    go_enter Try.func36, Try.ntmps36
    go_wp2_with (go_at_call 59; refine cO.mono ?_; rintro e w3 ⟨rfl, hb3⟩)
    go_ret2
    exact ⟨_, rfl, OwnL.made _ w.heap.size 63 hb3.size, hb3.alloc hb3.size _⟩
  · rw [ho] at cO
    rw [hc, ifL1 _ (by decide)]
    have hN := shown_len_all (okBS_parts ho).2.2
    generalize hM : shownL S = M at *
    clear hA hc hM
    go_enter Try.func36, Try.ntmps36
    go_wp2_with (first | (go_at_call 59; refine cO.mono ?_; rintro e w3 ⟨rfl, hb3⟩) | (go_at_call 63; refine (cS _ hb3 ho).mono ?_; rintro e w4 ⟨v', rfl, hown, hb4⟩; obtain ⟨A', c', rfl, h1', h2', hA'⟩ := hown.sl (by decide); have hb04 := grown_below hb3 hb4 hb3.size; clear hb4 hown))
    go_ret2
    exact ⟨_, rfl, OwnL.made _ w.heap.size 63 hb04.size, hb04.alloc hb04.size _⟩
  · rw [ho] at cO
    rw [hc, ifL0]
    have hlen := (okBS_parts ho).2.1
    have HM := Lib.hid (shown_mem (okBS_parts ho).2.2)
    generalize hM : shownL S = M at *
    clear hc hM
    unfold playL
    go_enter Try.func36, Try.ntmps36
    go_wp2_with (first | (go_at_call 59; refine cO.mono ?_; rintro e w3 ⟨rfl, hb3⟩) | (go_at_call 63; refine (cS _ hb3 ho).mono ?_; rintro e w4 ⟨v', rfl, hown, hb4⟩; obtain ⟨A', c', rfl, h1', h2', hA'⟩ := hown.sl (by decide); have hb04 := grown_below hb3 hb4 hb3.size; clear hb4 hown))
    clear cS hb3
    have hm := OwnL.made (E := eFr) w4 w4.heap.size 63 (Nat.le_refl _)
    have h0 := (Below.refl w4.heap.size w4).alloc (Nat.le_refl _) (.cells #[] 63)
    go_loopw [7, 8] (fun u i wr => ∃ k : Nat, k ≤ M.length ∧ i = .int .i64 k ∧ OwnL eFr wr w4.heap.size 63 u (tab (fun i => fAt L (M.getD i 0).toNat) k) ∧ Below w4.heap.size w4 wr) (fun _ i _ => M.length - (intOf i).toNat)
    case atStart => exact ⟨0, by omega, rfl, hm, h0⟩
    case round =>
      clear hm h0
      obtain ⟨k, hk, rfl, hown, hb⟩ := hrel
      by_cases hlt : k < M.length
      · have hmem := HM.out (M.getD k 0) (List.mem_of_getElem? (getD_get hlt))
        have HU := Lib.hid (tab_succ (fun i => fAt L (M.getD i 0).toNat) k)
        obtain ⟨b2, o2, rfl, hb2, r2⟩ := hA' (by omega)
        have c0 := int_cell (range_below r2 hb hb2) hlt
        obtain ⟨p, hp⟩ := Int.eq_ofNat_of_zero_le hmem.1
        rw [hp] at c0
        have hpl : p < L.length := by omega
        obtain ⟨b1, o1, rfl, hb1, r1⟩ := hA (by omega)
        have g1 := range_below (range_below (range_part r1 (fAt_get hpl)) hb04 hb1) hb (Nat.lt_of_lt_of_le hb1 hb04.size)
        rw [eFr_n] at g1
        have hpp : (M.getD k 0).toNat = p := by rw [hp]; rfl
        have HP := Lib.hid hpp
        clear hA hA' r1 r2 hmem hp hpp
        have hll : (tab (fun i => fAt L (M.getD i 0).toNat) k).length ≤ 1000 := by rw [tab_length]; omega
        have hsz := hb.size
        go_wp2_with (first | (refine wpList_load_at rfl 63 61 _ rfl _ _ rfl g1 Try.underlying63 (by kernel_rfl) ?_) | (refine wpList_build1 (v := .agg (FC (fAt L p))) (cs := FC (fAt L p)) rfl 28 63 _ rfl rfl (fun w => run_build_frs w (fAt L p)) ?_) | (at_builtin; refine wpList_append_one rfl _ _ 28 rfl w4.heap.size 63 Try.underlying28 infoFrL rfl (by decide) (by omega) (hown.alloc (.cells (FC (fAt L p)) 63)) rfl (fAt L p) rfl (range_new _ _ (FC (fAt L p))) (by omega) (by simp; omega) ?_; intro v' w6 hown' hgrow))
        go_roundw
        case rel =>
          go_light
          refine ⟨k + 1, by omega, by go_num, ?_, (hown.alloc _).grown_below (hb.alloc hb.size _) hgrow (Nat.le_refl _) (by simp; omega)⟩
          rw [HU.out, HP.out]; exact hown'
        case measure => simp [intOf]; omega
      · have hkl : k = M.length := by omega
        subst hkl
        clear hA hA'
        go_wp2
        go_ret2
        exact ⟨_, rfl, hown.mono hb04.size, grown_below hb04 hb hb04.size⟩
set_option maxHeartbeats 2000000 in
theorem implPlaySheet_any (v u : Value) (L : List (Nat → Nat)) (S : List (Int × Int)) (w : World) (hL : ltL L) (hS : ltS S) (h : SlAt eFr w w.heap.size v L) (hs : SlAt eSh w w.heap.size u S) :
    Calls Try.prog 37 #[v, u] w (GivesL eFr 63 (ifL (plC L S) (playL L (shownL S))) (plC L S) w) := by
  have cO := implValidSheet_any v u L S w hL hS h hs
  have cS := fun (w' : World) (hb : Below w.heap.size w w') (ho : okBS L S = true) => ticksOf_any u L.length S w' (okBS_parts ho).2.2 (okBS_parts ho).2.1 (hs.later hb)
  have cN := fun (w' : World) (hb : Below w.heap.size w w') (ho : okBS L S = true) => lengthOf_any u L.length S w' (okBS_parts ho).2.2 (okBS_parts ho).2.1 (hs.later hb)
  obtain ⟨A, c, rfl, h1, h2, hA⟩ := h
  obtain ⟨B, d, rfl⟩ := hs.form
  clear hs
  unfold maxLen at h2
  rcases plC_cases L S with ⟨ho, hc⟩ | ⟨ho, h40, hc⟩ | ⟨ho, h40, hc⟩
  · rw [ho] at cO
    rw [hc, ifL1 _ (by decide)]
    clear cS hA ho hc cN
    go_enter Try.func37, Try.ntmps37
    go_wp2_with (go_at_call 30; refine cO.mono ?_; rintro e w3 ⟨rfl, hb3⟩)
    go_ret2
    exact ⟨_, rfl, OwnL.nil_ _ _ _, hb3⟩
  · rw [ho] at cO
    rw [hc, ifL1 _ (by decide)]
    have hN := shown_len_all (okBS_parts ho).2.2
    generalize hM : shownL S = M at *
    clear hA hc hM
    go_enter Try.func37, Try.ntmps37
    go_wp2_with (first | (go_at_call 30; refine cO.mono ?_; rintro e w3 ⟨rfl, hb3⟩) | (go_at_call 64; refine (cN _ hb3 ho).mono ?_; rintro e w5 ⟨rfl, hb5⟩; replace hb3 := grown_below hb3 hb5 hb3.size; clear hb5) | (go_at_call 67; refine (cS _ hb3 ho).mono ?_; rintro e w4 ⟨v', rfl, hown, hb4⟩; obtain ⟨A', c', rfl, h1', h2', hA'⟩ := hown.sl (by decide); have hb04 := grown_below hb3 hb4 hb3.size; clear hb4 hown))
    go_ret2
    exact ⟨_, rfl, OwnL.nil_ _ _ _, hb3⟩
  · rw [ho] at cO
    rw [hc, ifL0]
    have hlen := (okBS_parts ho).2.1
    have HM := Lib.hid (shown_mem (okBS_parts ho).2.2)
    generalize hM : shownL S = M at *
    clear hc hM
    unfold playL
    go_enter Try.func37, Try.ntmps37
    go_wp2_with (first | (go_at_call 30; refine cO.mono ?_; rintro e w3 ⟨rfl, hb3⟩) | (go_at_call 64; refine (cN _ hb3 ho).mono ?_; rintro e w5 ⟨rfl, hb5⟩; replace hb3 := grown_below hb3 hb5 hb3.size; clear hb5) | (go_at_call 67; refine (cS _ hb3 ho).mono ?_; rintro e w4 ⟨v', rfl, hown, hb4⟩; obtain ⟨A', c', rfl, h1', h2', hA'⟩ := hown.sl (by decide); have hb04 := grown_below hb3 hb4 hb3.size; clear hb4 hown))
    clear cS cN hb3
    have hm := OwnL.nil_ (E := eFr) w4 w4.heap.size 63
    have h0 := Below.refl w4.heap.size w4
    go_loopw [6, 19] (fun u i wr => ∃ k : Nat, k ≤ M.length ∧ i = .int .i64 k ∧ OwnL eFr wr w4.heap.size 63 u (tab (fun i => fAt L (M.getD i 0).toNat) k) ∧ Below w4.heap.size w4 wr) (fun _ i _ => M.length - (intOf i).toNat)
    case atStart => exact ⟨0, by omega, rfl, hm, h0⟩
    case round =>
      clear hm h0
      obtain ⟨k, hk, rfl, hown, hb⟩ := hrel
      by_cases hlt : k < M.length
      · have hmem := HM.out (M.getD k 0) (List.mem_of_getElem? (getD_get hlt))
        have HU := Lib.hid (tab_succ (fun i => fAt L (M.getD i 0).toNat) k)
        obtain ⟨b2, o2, rfl, hb2, r2⟩ := hA' (by omega)
        have c0 := int_cell (range_below r2 hb hb2) hlt
        obtain ⟨p, hp⟩ := Int.eq_ofNat_of_zero_le hmem.1
        rw [hp] at c0
        have hpl : p < L.length := by omega
        obtain ⟨b1, o1, rfl, hb1, r1⟩ := hA (by omega)
        have g1 := range_below (range_below (range_part r1 (fAt_get hpl)) hb04 hb1) hb (Nat.lt_of_lt_of_le hb1 hb04.size)
        rw [eFr_n] at g1
        have hpp : (M.getD k 0).toNat = p := by rw [hp]; rfl
        have HP := Lib.hid hpp
        clear hA hA' r1 r2 hmem hp hpp
        have hll : (tab (fun i => fAt L (M.getD i 0).toNat) k).length ≤ 1000 := by rw [tab_length]; omega
        have hsz := hb.size
        go_wp2_with (first | (refine wpList_load_at rfl 63 61 _ rfl _ _ rfl g1 Try.underlying63 (by kernel_rfl) ?_) | (refine wpList_build1 (v := .agg (FC (fAt L p))) (cs := FC (fAt L p)) rfl 28 63 _ rfl rfl (fun w => run_build_frs w (fAt L p)) ?_) | (at_builtin; refine wpList_append_one rfl _ _ 28 rfl w4.heap.size 63 Try.underlying28 infoFrL rfl (by decide) (by omega) (hown.alloc (.cells (FC (fAt L p)) 63)) rfl (fAt L p) rfl (range_new _ _ (FC (fAt L p))) (by omega) (by simp; omega) ?_; intro v' w6 hown' hgrow))
        go_roundw
        case rel =>
          go_light
          refine ⟨k + 1, by omega, by go_num, ?_, (hown.alloc _).grown_below (hb.alloc hb.size _) hgrow (Nat.le_refl _) (by simp; omega)⟩
          rw [HU.out, HP.out]; exact hown'
        case measure => simp [intOf]; omega
      · have hkl : k = M.length := by omega
        subst hkl
        clear hA hA'
        go_wp2
        go_ret2
        exact ⟨_, rfl, hown.mono hb04.size, grown_below hb04 hb hb04.size⟩
end Go.Proofs.Ythkpefdjhdemeac
