/- THE WALK of the law FnExactCostOf: it returns true and writes nothing that was there. -/
import Derived.Test.YtjbjbdkmomkclaaDoorStp3
import Derived.Test.YtjbjbdkmomkclaaDoorCo
import Derived.Test.YtjbjbdkmomkclaaDoorHeld
import Derived.Test.YtjbjbdkmomkclaaDoorHeld2
namespace Go.Proofs.YtjbjbdkmomkclaaDoor
set_option maxRecDepth 100000
open Go.RowKit
set_option linter.unusedVariables false
set_option linter.unusedSimpArgs false
set_option maxHeartbeats 4000000 in
theorem wFnExactCostOf.walk (h : Hd) (vt : Value) (Lt : List (Int × Int)) (hh : ltHd h) (hLt : ltCg Lt) (w : World) (st : SlAt eCg w w.heap.size vt Lt) (hK : Kd w) :
    Calls Tryd.prog 3 #[.agg (StC h vt)] w fun e w' => e = .returned (.bool true) ∧ Below w.heap.size w w' := by
  obtain ⟨At, ct, het⟩ := st.form
  subst het
  have hm := st.len
  have a1 := Row.new w 25 (StC h (.slice At Lt.length ct))
  have h0 := (Below.refl w.heap.size w).alloc (Nat.le_refl _) (.cells (StC h (.slice At Lt.length ct)) 25)
  have cZ := fun w => szStep_any h At Lt.length ct 1000000 w hm (by omega) (by omega)
  by_cases hz : Lt.length ≤ 1000000
  case neg =>
    rw [if_neg (by omega)] at cZ
    go_enter Tryd.func3, Tryd.ntmps3
    go_wp2_with (first | (refine wpList_load_row rfl 25 _ rfl _ rfl _ _ (0, 0) _ a1 Tryd.underlying25 rfl (by kernel_rfl) ?_) | (go_at_call 8; refine (cZ _).mono ?_; rintro e w' ⟨rfl, hb⟩; replace h0 := grown_below h0 hb h0.size))
    go_ret
    exact ⟨rfl, h0⟩
  rw [if_pos (by omega)] at cZ
  have qt : 0 ≤ 1000000 - (Lt.length : Int) := by omega
  generalize 1000000 - (Lt.length : Int) = zz at cZ qt
  have d0 : decide (zz < 0) = false := decide_eq_false (by omega)
  have cT := fun b w' (hb : Below w.heap.size w w') => toStep_any h _ Lt b w' hz (st.later hb)
  go_enter Tryd.func3, Tryd.ntmps3
  go_wp2_with (first | (refine wpList_load_row rfl 25 _ rfl _ rfl _ _ (0, 0) _ a1 Tryd.underlying25 rfl (by kernel_rfl) ?_) | (go_at_call 8; refine (cZ _).mono ?_; rintro e w' ⟨rfl, hb⟩; replace a1 := Row.below a1 hb (Row.lt a1); replace h0 := grown_below h0 hb h0.size; clear hb cZ))
  refine (cT _ _ h0).mono ?_
  rintro e w1 ⟨u1, rfl, T1, hb⟩
  replace a1 := Row.below a1 hb (Row.lt a1)
  replace h0 := grown_below h0 hb h0.size
  clear hb
  obtain ⟨A1, c1, rfl⟩ := (T1.sl hz).form
  go_wp2_with fail
  refine (specCostOf_any h A1 Lt.length c1 _ hh hz).mono ?_
  rintro e w2 ⟨rfl, hb⟩
  replace a1 := Row.below a1 hb (Row.lt a1)
  replace h0 := grown_below h0 hb h0.size
  clear hb T1
  generalize hC : coZ h.1 Lt.length = C
  generalize hV : ifI C (baseZ h.1 + 3 * (Lt.length : Int)) = V
  have hCV : ∀ (A : Option Addr) (c : Nat) (w' : World) (hK : Kd w'), Calls Tryd.prog 11 #[.agg (StC h (.slice A Lt.length c))] w' fun e w'' => e = .returned (.tuple #[.int .i64 V, .int .i64 C]) ∧ Below w'.heap.size w' w'' := fun A c w' hK => by
    have := implCostOf_any h A Lt.length c w' hh hz hK
    rw [hC, hV] at this
    exact this
  have HCV := Lib.hid hCV
  clear hC hV hCV
  go_wp2_with (refine wpList_load_row rfl 25 _ rfl _ rfl _ _ (0, 0) _ a1 Tryd.underlying25 rfl (by kernel_rfl) ?_)
  refine (cT _ _ h0).mono ?_
  rintro e w3 ⟨u2, rfl, T2, hb⟩
  replace a1 := Row.below a1 hb (Row.lt a1)
  have z3 := h0.size
  replace h0 := grown_below h0 hb h0.size
  clear hb
  obtain ⟨hb0, _, _⟩ | ⟨g2, rfl, hg2, H2⟩ := T2
  · exact absurd hb0 (by decide)
  have zg := H2.lt
  have hone := StC_one h (.slice (some ⟨g2, 0, none⟩) Lt.length (Lt.length + roomN Lt.length)) rfl
  have zr : zeroR = StC zeroHd (.slice none 0 0) := rfl
  have bn := Row.new w3 31 zeroR
  have h1 := h0.alloc h0.size (.cells zeroR 31)
  have a2 := Row.alloc a1 (.cells zeroR 31)
  have H3 := H2.alloc (.cells zeroR 31)
  have ng : w.heap.size ≠ w3.heap.size := by have := Row.lt a1; omega
  have hs3 := h0.size
  unfold zeroR at bn h1 a2 H3
  clear a1 h0 H2 zr
  go_wp2_with (first
    | (refine wpList_store_row rfl 31 _ _ rfl _ rfl bn rfl rfl hone (by kernel_rfl) ?_; have bn2 := Row.setRow bn (StC h (.slice (some ⟨g2, 0, none⟩) Lt.length (Lt.length + roomN Lt.length))); replace h1 := below_setRow h1 hs3 (StC h (.slice (some ⟨g2, 0, none⟩) Lt.length (Lt.length + roomN Lt.length))); replace a2 := Row.setRowOther a2 (StC h (.slice (some ⟨g2, 0, none⟩) Lt.length (Lt.length + roomN Lt.length))) ng; replace H3 := Row.setRowOther H3 (StC h (.slice (some ⟨g2, 0, none⟩) Lt.length (Lt.length + roomN Lt.length))) (Nat.ne_of_lt zg); clear bn; generalize World.setRow _ _ _ = w4 at *; have H4 : Held eCg w4 g2 81 (roomy fillCg Lt) := H3; clear H3; have H3 := H4; clear H4)
    | (refine wpList_load_row rfl 31 _ rfl _ rfl _ _ (0, 0) _ bn2 Tryd.underlying31 rfl (by kernel_rfl) ?_))
  refine (HCV.out _ _ _ (hK.below h1)).mono ?_
  rintro e w5 ⟨rfl, hb⟩
  replace a2 := Row.below a2 hb (Row.lt a2)
  replace bn2 := Row.below bn2 hb (Row.lt bn2)
  replace H3 : Held eCg w5 g2 81 (roomy fillCg Lt) := H3.below hb H3.lt
  replace h1 := grown_below h1 hb h1.size
  clear hb
  have zb := Row.lt bn2
  generalize w3.heap.size = gn at *
  have dC : (C != C) = false := by simp
  have dV : (V != V) = false := by simp
  go_wp2_with fail
  refine' wp_cut_blk _ (fun g w' => Below w5.heap.size w5 w') ?hw0 ?kw0
  case' hw0 =>
    refine wp_region_held_drew (S := fun w' => Below w5.heap.size w5 w') (by kernel_rfl) (below_drew_refl w5) (fun hS => ?_)
    generalize w5.drew = v0 at hS ⊢
    refine held_take (i := 0) rfl (by kernel_rfl) (by kernel_rfl) (by kernel_rfl) (fun _ _ _ h => nomatch h.1) (yieldsIf_load_row rfl 31 _ rfl _ rfl (fun w' h => Row.below bn2 h (Row.lt bn2)) Tryd.underlying31 rfl (by kernel_rfl)) hS ?_
    try simp only [Act.put, List.setIfInBounds_toArray, List.set_cons_zero, List.set_cons_succ]
    refine held_take (i := 1) rfl (by kernel_rfl) (by kernel_rfl) (by kernel_rfl) (fun _ _ _ h => nomatch h.1) (yieldsIf_load_row rfl 25 _ rfl _ rfl (fun w' h => Row.below a2 h (Row.lt a2)) Tryd.underlying25 rfl (by kernel_rfl)) hS ?_
    try simp only [Act.put, List.setIfInBounds_toArray, List.set_cons_zero, List.set_cons_succ]
    refine wpAnyH_ready (rs := [2]) (by kernel_rfl) (by simp) ?_
    refine held_cons rfl (fun K hK => ?_) AllReadyH.nil
    go_simp
    go_at_call 10
    refine (cT _ _ (grown_below h1 hS h1.size)).mono ?_
    rintro e v1 ⟨u3, rfl, T3, hb1⟩
    have zs := hS.size
    refine hK.out _ _ (grown_below hS hb1 hS.size) (fun hS' => ?_)
    clear hK K
    obtain ⟨hb0, _, _⟩ | ⟨g3, rfl, hg3, Hg3⟩ := T3
    · exact absurd hb0 (by decide)
    have H3' : Held eCg v1 g2 81 (roomy fillCg Lt) := H3.below hS' H3.lt
    clear hS hb1 zs hg3; have hS := hS'; clear hS'; clear v0
    try simp only [Act.put, List.setIfInBounds_toArray, List.set_cons_zero, List.set_cons_succ]
    refine wpAnyH_ready (rs := [3]) (by kernel_rfl) (by simp) ?_
    refine held_cons rfl (fun K hK => ?_) AllReadyH.nil
    go_simp
    go_at_call 12
    refine (intactStep_any g2 g3 h Lt _ hz H3' Hg3).mono ?_
    rintro e v2 ⟨rfl, hb1⟩
    refine hK.out _ _ (grown_below hS hb1 hS.size) (fun hS' => ?_)
    clear hK K hS hb1 H3' Hg3; have hS := hS'; clear hS'
    try simp only [Act.put, List.setIfInBounds_toArray, List.set_cons_zero, List.set_cons_succ]
    refine held_take (i := 4) (v := ?_) rfl (by kernel_rfl) (by kernel_rfl) (by kernel_rfl) (fun _ _ _ h => nomatch h.1) (Or.inl ⟨by rfl, ?_⟩) hS ?_
    rotate_left
    · intro w hSw; go_simp; (try with_reducible rfl)
    try simp only [Act.put, List.setIfInBounds_toArray, List.set_cons_zero, List.set_cons_succ]
    refine wpAnyH_done (by kernel_rfl) ⟨rfl, g3, ?_, hS⟩ _
    exact rfl
  case kw0 =>
  intro g3 w6 hb
  replace a2 := Row.below a2 hb (Row.lt a2)
  replace h1 := grown_below h1 hb h1.size
  clear hb bn2 H3
  go_wp2_with (refine wpList_load_row rfl 25 _ rfl _ rfl _ _ (0, 0) _ a2 Tryd.underlying25 rfl (by kernel_rfl) ?_)
  refine (cT _ _ h1).mono ?_
  rintro e w7 ⟨u4, rfl, T4, hb⟩
  replace h1 := grown_below h1 hb h1.size
  clear hb a2
  obtain ⟨A4, c4, rfl⟩ := (T4.sl hz).form
  go_wp2_with fail
  refine (HCV.out _ _ _ (hK.below h1)).mono ?_
  rintro e w8 ⟨rfl, hb⟩
  replace h1 := grown_below h1 hb h1.size
  clear hb T4
  go_wp2
  go_ret
  exact ⟨rfl, h1⟩
end Go.Proofs.YtjbjbdkmomkclaaDoor
