/- STEPS: when steps are valid. spec: l06Ok, ValidSteps; impl: Step.hasRows, Step.hasBase, ValidSteps. -/
import Derived.Test.YtjbjbdkmomkclabStv2
namespace Go.Proofs.Ytjbjbdkmomkclab
set_option maxRecDepth 100000
open Go.RowKit
set_option linter.unusedVariables false
set_option linter.unusedSimpArgs false
set_option maxHeartbeats 1000000 in
theorem specOkS_any (v : Value) (L : List Stp) (w : World) (hL : ltSt L) (hn : L.length ≤ 1000000) (h : StsAt w w.heap.size v L) :
    Calls Try.prog 46 #[v] w fun e w' => e = .returned (.bool (okSts L)) ∧ Below w.heap.size w w' := by
  obtain ⟨A, c, rfl, h1, h2, hA⟩ := h
  unfold maxLen at h2
  go_enter Try.func46, Try.ntmps46
  go_wp2
  go_loopw [3] (fun i wr => ∃ k : Nat, k ≤ L.length ∧ i = .int .i64 k ∧ (∀ j, j < k → okStpB (tAt L j) (j : Int) = true) ∧ Below w.heap.size w wr) (fun i _ => L.length - (intOf i).toNat)
  case atStart => exact ⟨0, by omega, rfl, by omega, Below.refl _ _⟩
  case round =>
    obtain ⟨k, hk, rfl, he, hb⟩ := hrel
    have HE := Lib.hid he
    clear he
    by_cases hlt : k < L.length
    · obtain ⟨b1, o1, rfl, hb1, r1⟩ := hA (by omega)
      obtain ⟨z, r, sz⟩ := r1 k hlt
      have cS := specStep_any b1 (o1 + k * 5) (tAt L k) z (k : Int) wr (tAt_lt hL k) (by omega) (range_below r hb hb1) (Nat.lt_of_lt_of_le hb1 hb.size) ((sz.below hb).mono hb.size)
      clear hA r1 r sz
      cases hq : okStpB (tAt L k) (k : Int) with
      | true =>
        rw [hq] at cS
        have HQ := Lib.hid hq
        clear hq
        go_wp2_with (go_at_call 85; refine cS.mono ?_; rintro e w2 ⟨rfl, hb2⟩; replace hb := grown_below hb hb2 hb.size)
        go_roundw
        case rel =>
          go_light
          refine ⟨k + 1, by omega, by go_num, ?_, hb⟩
          intro j hj
          rcases Nat.lt_succ_iff_lt_or_eq.1 hj with h | rfl
          · exact HE.out j h
          · exact HQ.out
        case measure => simp [intOf]; omega
      | false =>
        rw [hq] at cS
        have HQ := Lib.hid (okSts_false_at hlt hq)
        clear hq
        go_wp2_with (go_at_call 85; refine cS.mono ?_; rintro e w2 ⟨rfl, hb2⟩; replace hb := grown_below hb hb2 hb.size)
        go_ret
        exact ⟨ret_bool HQ.out.symm, hb⟩
    · have hkl : k = L.length := by omega
      subst hkl
      clear hA
      by_cases h40 : L.length ≤ 40
      · go_wp2
        go_ret
        exact ⟨ret_bool ((decide_eq_true (by omega)).trans (okSts_iff.2 ⟨h40, HE.out⟩).symm), hb⟩
      · go_wp2
        go_ret
        exact ⟨ret_bool ((decide_eq_false (by omega)).trans (okSts_false_len (by omega)).symm), hb⟩
/-- Where the next row of a step may lie. -/
def nxtY (L : List (Int × Int)) (k : Nat) : Int := if k = 0 then 0 else (cgAt L (k - 1)).1 + 1
theorem okRowP_nxt {L : List (Int × Int)} {k : Nat} (hb : 0 ≤ nxtY L k) (h1 : ¬ (cgAt L k).1 < nxtY L k) (h2 : ¬ 12 ≤ (cgAt L k).1) (h3 : 1 ≤ (cgAt L k).2) (h4 : (cgAt L k).2 ≤ 4095) : okRowP L k := by
  unfold nxtY at h1 hb
  refine ⟨⟨by omega, by omega⟩, ⟨h3, h4⟩, ?_⟩
  by_cases e : k = 0
  · exact .inl e
  · rw [if_neg e] at h1; exact .inr (by omega)
theorem nxtY_in {L : List (Int × Int)} {k : Nat} (he : ∀ j, j < k → okRowP L j) : 0 ≤ nxtY L k ∧ nxtY L k ≤ 12 := by
  unfold nxtY
  by_cases e : k = 0
  · rw [if_pos e]; omega
  · rw [if_neg e]; have := (he (k - 1) (by omega)).1; omega
theorem okRowP_ups {L : List (Int × Int)} {k : Nat} (h : okRowP L k) : ¬ (cgAt L k).1 < nxtY L k := by
  obtain ⟨⟨h0, _⟩, _, h2⟩ := h
  unfold nxtY
  by_cases e : k = 0
  · rw [if_pos e]; omega
  · rw [if_neg e]; rcases h2 with h | h
    · exact absurd h e
    · omega
set_option maxHeartbeats 2000000 in
theorem hasRows_any (h : Hd) (v : Value) (L : List (Int × Int)) (w : World) (hL : ltCg L) (hs : SlAt eCg w w.heap.size v L) :
    Calls Try.prog 97 #[.agg (StC h v)] w fun e w' => e = .returned (.bool (okRows L)) ∧ Below w.heap.size w w' := by
  obtain ⟨A, c, rfl, h1, h2, hA⟩ := hs
  unfold maxLen at h2
  have h0 := (Below.refl w.heap.size w).alloc (Nat.le_refl _) (.cells (StC h (.slice A L.length c)) 85)
  unfold StC at h0 ⊢
  go_enter Try.func97, Try.ntmps97
  go_wp2
  generalize w.alloc _ = w1 at *
  go_loopw [3, 9] (fun nx i wr => ∃ k : Nat, k ≤ L.length ∧ i = .int .i64 k ∧ nx = .int .i8 (nxtY L k) ∧ (∀ j, j < k → okRowP L j) ∧ Below w.heap.size w wr) (fun _ i _ => L.length - (intOf i).toNat)
  case atStart => exact ⟨0, by omega, rfl, rfl, by omega, h0⟩
  case round =>
    clear h0
    obtain ⟨k, hk, rfl, rfl, he, hb⟩ := hrel
    have hnx := nxtY_in he
    have HE := Lib.hid he
    clear he
    by_cases hlt : k < L.length
    · obtain ⟨b1, o1, rfl, hb1, r1⟩ := hA (by omega)
      have g1 := range_below (range_part r1 (cgAt_get hlt)) hb hb1
      rw [eCg_n] at g1
      have hb2 := cgAt_lt hL k
      have HP := Lib.hid (fun h1 h2 h3 h4 => okRowP_nxt (L := L) (k := k) hnx.1 h1 h2 h3 h4)
      have HU := Lib.hid (fun h => okRowP_ups (L := L) (k := k) h)
      have HF := Lib.hid (fun (h : ¬ okRowP L k) => okRows_false hlt h)
      have HN := Lib.hid (show nxtY L (k + 1) = (cgAt L k).1 + 1 from rfl)
      have HD := Lib.hid (show okRowP L k → _ from fun h => (⟨h.1, h.2.1⟩ : (0 ≤ (cgAt L k).1 ∧ (cgAt L k).1 ≤ 11) ∧ (1 ≤ (cgAt L k).2 ∧ (cgAt L k).2 ≤ 4095)))
      have hb' := hb.alloc hb.size (.cells (CgC (cgAt L k)) 127)
      unfold ltCg1 at hb2
      clear hA r1
      unfold CgC at hb'
      have g2 : wr.rangeAt b1 (o1 + k * 2) (eCg.c ((cgAt L k).1, (cgAt L k).2)) := g1
      clear g1
      generalize (cgAt L k).1 = y at *
      generalize (cgAt L k).2 = u at *
      generalize nxtY L k = nx at *
      have hfin : ∀ w' : World, Below w.heap.size w w' → ¬ okRowP L k → Ending.returned (.bool false) = Ending.returned (.bool (okRows L)) ∧ Below w.heap.size w w' := fun w' hb h => ⟨ret_bool (HF.out h).symm, hb⟩
      have HFIN := Lib.hid hfin
      clear hfin HF
      by_cases e1 : y < nx
      · have HX := Lib.hid (show ¬ okRowP L k from fun h => HU.out h e1)
        clear HP HU HN HD
        go_wp2_with (refine wpList_load_el (E := eCg) rfl 127 _ rfl _ _ rfl (y, u) #[.int .i8 y, .int .u16 u] rfl g2 Try.underlying127 rfl (by kernel_rfl) ?_)
        go_ret
        exact HFIN.out _ hb' HX.out
      · by_cases e2 : 12 ≤ y
        · have HX := Lib.hid (show ¬ okRowP L k from fun h => by have := (HD.out h).1.2; omega)
          clear HP HU HN HD
          go_wp2_with (refine wpList_load_el (E := eCg) rfl 127 _ rfl _ _ rfl (y, u) #[.int .i8 y, .int .u16 u] rfl g2 Try.underlying127 rfl (by kernel_rfl) ?_)
          go_ret
          exact HFIN.out _ hb' HX.out
        · by_cases e3 : u = 0
          · have HX := Lib.hid (show ¬ okRowP L k from fun h => by have := (HD.out h).2.1; omega)
            subst e3
            clear HP HU HN HD
            go_wp2_with (refine wpList_load_el (E := eCg) rfl 127 _ rfl _ _ rfl (y, 0) #[.int .i8 y, .int .u16 0] rfl g2 Try.underlying127 rfl (by kernel_rfl) ?_)
            go_ret
            exact HFIN.out _ hb' HX.out
          · have d3 : (u == 0) = false := by simp; exact e3
            by_cases e4 : 4095 < u
            · have HX := Lib.hid (show ¬ okRowP L k from fun h => by have := (HD.out h).2.2; omega)
              clear HP HU HN HD
              go_wp2_with (refine wpList_load_el (E := eCg) rfl 127 _ rfl _ _ rfl (y, u) #[.int .i8 y, .int .u16 u] rfl g2 Try.underlying127 rfl (by kernel_rfl) ?_)
              go_ret
              exact HFIN.out _ hb' HX.out
            · have HX := Lib.hid (HP.out e1 e2 (by omega) (by omega))
              have kw : IntKind.i8.wrap (y + 1) = y + 1 := by simp [IntKind.wrap, IntKind.bits, IntKind.signed]; omega
              clear HP HU HD HFIN
              go_wp2_with (refine wpList_load_el (E := eCg) rfl 127 _ rfl _ _ rfl (y, u) #[.int .i8 y, .int .u16 u] rfl g2 Try.underlying127 rfl (by kernel_rfl) ?_)
              go_roundw
              case rel =>
                go_light
                refine ⟨k + 1, by omega, by go_num, by rw [HN.out], ?_, hb'⟩
                intro j hj
                rcases Nat.lt_succ_iff_lt_or_eq.1 hj with h | rfl
                · exact HE.out j h
                · exact HX.out
              case measure => simp [intOf]; omega
    · have hkl : k = L.length := by omega
      subst hkl
      clear hA
      go_wp2
      go_ret
      exact ⟨ret_bool (okRows_true HE.out).symm, hb⟩
end Go.Proofs.Ytjbjbdkmomkclab
