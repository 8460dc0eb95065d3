/- MendPage: spec and impl; slices.Clone of a book. -/
import Derived.Test.YtennmnkjdchbhaaPg
import Derived.Test.YtennmnkjdchbhaaMaj
import Derived.Test.YtennmnkjdchbhaaApp
namespace Go.Proofs.Ytennmnkjdchbhaa
set_option maxRecDepth 100000
open Go.RowKit
set_option linter.unusedVariables false
set_option linter.unusedSimpArgs false
def meC (L : List (Nat → Nat)) (p : Int) : Int := if pgC L p = 0 then (if hpB L (p - 1) && hpB L (p + 1) then 0 else 6) else pgC L p
def meL (L : List (Nat → Nat)) (p : Int) : List (Nat → Nat) := L.set p.toNat (majF (fAt L (p - 1).toNat) (fAt L p.toNat) (fAt L (p + 1).toNat))
theorem me_if_len (L : List (Nat → Nat)) (p : Int) : (ifL (meC L p) (meL L p)).length ≤ 1000 := by
  unfold ifL
  split
  · rename_i h
    unfold meC at h
    split at h
    · rename_i h0
      rcases pgC_cases L p with ⟨_, hc⟩ | ⟨_, _, hc⟩ | ⟨ho, _, hc⟩
      · omega
      · omega
      · unfold meL; rw [List.length_set]; have := okB_len ho; omega
    · rename_i h0; exact absurd h h0
  · simp
theorem infoFrD : (Try.prog.info? 50).map (fun i => (i.zero, i.size, i.bytes)) = some (some (.agg (FC zeroF)), eFr.n, 24) := by kernel_rfl
theorem cellsFrD : Try.prog.cellsOf 50 = eFr.n := by kernel_rfl
set_option maxHeartbeats 400000 in
theorem clone_any (v : Value) (L : List (Nat → Nat)) (w : World) (hl : L.length ≤ 1000) (h0 : 0 < L.length) (h : SlAt eFr w w.heap.size v L) :
    Calls Try.prog 79 #[v] w (GivesV eFr 50 L w) := by
  have h' := h
  obtain ⟨A, c, rfl, h1, h2, hA⟩ := h'
  obtain ⟨b1, o1, rfl, hb1, r1⟩ := hA h0
  have hm := OwnL.made (E := eFr) w w.heap.size 50 (Nat.le_refl _)
  have hb := (Below.refl w.heap.size w).alloc (Nat.le_refl _) (.cells #[] 50)
  have sp := h.alloc (Nat.le_refl _) (.cells #[] 50)
  have hq : ∀ w, (binOp .eql 28 (.slice (some ⟨b1, o1, none⟩) L.length c) (.slice none 0 0)).run Try.prog w = .ok (.bool false) w := fun w => Lib.run_eql_slice_nil w 28 50 (some ⟨b1, o1, none⟩) L.length c 0 0 Try.underlying28
  clear hA r1
  go_enter Try.func79, Try.ntmps79
  go_wp2_with (at_builtin; refine wpList_append_sl rfl _ _ 28 rfl w.heap.size 50 Try.underlying28 infoFrD rfl (by decide) (by omega) hm rfl rfl sp (by simp; omega) (by simp) ?_; intro v1 w1 hown hgrow)
  go_ret
  rw [List.nil_append] at hown
  exact ⟨_, rfl, hown, hm.grown_below hb hgrow (Nat.le_refl _) (by simp)⟩
set_option maxHeartbeats 2000000 in
theorem specMendPage_any (v : Value) (L : List (Nat → Nat)) (p : Int) (w : World) (hL : ltL L) (wf : (Lit.int .i64 p).wf = true) (h : SlAt eFr w w.heap.size v L) :
    Calls Try.prog 42 #[v, .int .i64 p] w (GivesL eFr 50 (ifL (meC L p) (meL L p)) (meC L p) w) := by
  have cP := l04Page_any v L p w h
  have hm := OwnL.made (E := eFr) w w.heap.size 50 (Nat.le_refl _)
  have h0 := (Below.refl w.heap.size w).alloc (Nat.le_refl _) (.cells #[] 50)
  have hml := h.len
  unfold maxLen at hml
  by_cases hz : pgC L p = 0
  · obtain ⟨ho, hp⟩ : okB L = true ∧ hpB L p = true := by
      rcases pgC_cases L p with ⟨_, hc⟩ | ⟨_, _, hc⟩ | ⟨h1, h2, hc⟩
      · omega
      · omega
      · exact ⟨h1, h2⟩
    have hlen := okB_len ho
    have hp' := hpB_iff.1 hp
    rw [hz] at cP
    obtain ⟨q, rfl⟩ := Int.eq_ofNat_of_zero_le hp'.1
    have hq : q < L.length := by omega
    have hmc : meC L q = if hpB L ((q : Int) - 1) && hpB L ((q : Int) + 1) then 0 else 6 := if_pos hz
    clear hz ho hp hp'
    obtain ⟨A, c, rfl⟩ := h.form
    by_cases e0 : q = 0
    · subst e0
      have hm6 : meC L ((0 : Nat) : Int) = 6 := by rw [hmc, hpB_false.2 (.inl (by omega))]; rfl
      rw [hm6, ifL1 _ (by decide)]
      clear hmc hm6 h
      go_enter Try.func42, Try.ntmps42
      go_wp2_with (go_at_call 70; refine cP.mono ?_; rintro e w' ⟨rfl, rfl⟩)
      go_ret2
      exact ⟨_, rfl, hm, h0⟩
    · by_cases e1 : q + 1 = L.length
      · have hm6 : meC L (q : Int) = 6 := by rw [hmc, hpB_false (p := (q : Int) + 1) |>.2 (.inr (by omega)), Bool.and_false]; rfl
        rw [hm6, ifL1 _ (by decide)]
        have d0 : ((q : Int) == 0) = false := by simp; omega
        have d1 : ((q : Int) + 1 == (L.length : Int)) = true := by simp; omega
        have kw : IntKind.i64.wrap ((q : Int) + 1) = (q : Int) + 1 := IntWalk.i64_in _ (by omega)
        clear hmc hm6 h e1 e0
        go_enter Try.func42, Try.ntmps42
        go_wp2_with (go_at_call 70; refine cP.mono ?_; rintro e w' ⟨rfl, rfl⟩)
        go_ret2
        exact ⟨_, rfl, hm, h0⟩
      · have hm0 : meC L (q : Int) = 0 := by rw [hmc, hpB_iff.2 ⟨by omega, by omega⟩, hpB_iff.2 ⟨by omega, by omega⟩]; rfl
        rw [hm0, ifL0]
        unfold meL
        have d0 : ((q : Int) == 0) = false := by simp; omega
        have d1 : ((q : Int) + 1 == (L.length : Int)) = false := by simp; omega
        obtain ⟨a, ha⟩ : ∃ a : Nat, q = a + 1 := ⟨q - 1, by omega⟩
        have t1 : ((q : Int) - 1).toNat = a := by omega
        have t2 : ((q : Int) + 1).toNat = q + 1 := by omega
        rw [t1, t2, Int.toNat_natCast]
        have k1 : IntKind.i64.wrap ((q : Int) - 1) = (a : Int) := by rw [IntWalk.i64_in _ (by omega)]; omega
        have k2 : IntKind.i64.wrap ((q : Int) + 1) = ((q + 1 : Nat) : Int) := by rw [IntWalk.i64_in _ (by omega)]; rfl
        generalize hq1 : q + 1 = b at *
        have hal : a < L.length := by omega
        have hbl : b < L.length := by omega
        obtain ⟨A', c', he, h1, h2, hA⟩ := id h
        cases he
        obtain ⟨pb, po, rfl, hbb, r1⟩ := hA (by omega)
        have cM := fun (W : World) (hB : Below w.heap.size w W) => most_any pb (po + a * 12) pb (po + q * 12) pb (po + b * 12) (fAt L a) (fAt L q) (fAt L b) (fAt_lt hL _) (fAt_lt hL _) (fAt_lt hL _) W (range_below (range_part r1 (fAt_get hal)) hB hbb) (Nat.lt_of_lt_of_le hbb hB.size) (range_below (range_part r1 (fAt_get hq)) hB hbb) (Nat.lt_of_lt_of_le hbb hB.size) (range_below (range_part r1 (fAt_get hbl)) hB hbb) (Nat.lt_of_lt_of_le hbb hB.size)
        generalize majF (fAt L a) (fAt L q) (fAt L b) = r at *
        have sp := h.alloc (Nat.le_refl _) (.cells #[] 50)
        have CM := Lib.hid cM
        have HA := Lib.hid ha
        clear hmc hm0 cM e0 e1 t1 t2 ha hA r1 h
        go_enter Try.func42, Try.ntmps42
        go_wp2_with (first | (go_at_call 70; refine cP.mono ?_; rintro e w' ⟨rfl, rfl⟩) | (at_builtin; refine wpList_append_sl rfl _ _ 28 rfl w.heap.size 50 Try.underlying28 infoFrD rfl (by decide) (by omega) hm rfl rfl sp (by simp; omega) (by simp) ?_; intro v1 w1 hown hgrow))
        rw [List.nil_append] at hown
        have hb2 := hm.grown_below h0 hgrow (Nat.le_refl _) (by simp)
        rcases hown.form with ⟨_, h9⟩ | ⟨g, cap, R, rfl, hgb, hgl, hcap, hcm, _⟩
        · rw [h9] at hq; exact absurd hq (by simp)
        unfold maxLen at hcm
        have hz0 : 0 < L.length := by omega
        go_wp2_with fail
        refine wp_region_tail 15 (by kernel_rfl) (by kernel_rfl) ?_
        simp only [List.take_succ_cons, List.take_zero, List.drop_succ_cons, List.drop_zero]
        repeat (quiet_step (first | with_reducible exact Calls.regrown_of (CM.out _ (grown_below hb2 (below_regrown w1 _ _) hb2.size))))
        refine wpQuiet_nil ?_
        intro w5 hb5
        replace hown := hown.below hb5
        replace hb2 := grown_below hb2 hb5 hb2.size
        clear hb5 sp hgrow
        go_wp2_with (refine wpList_store_own (t := 50) rfl 50 _ _ rfl hown (i := q) hq rfl rfl r rfl rfl (by kernel_rfl) ?_; intro hown2 hw2)
        go_ret2
        exact ⟨_, rfl, hown2, hw2.below hb2 hgb hb2.size⟩
  · have hc : meC L p = pgC L p := if_neg hz
    rw [hc, ifL1 _ hz]
    obtain ⟨A, c, rfl⟩ := h.form
    have d0 : (pgC L p != 0) = true := by simpa using hz
    clear hc h hz
    generalize pgC L p = cc at *
    go_enter Try.func42, Try.ntmps42
    go_wp2_with (go_at_call 70; refine cP.mono ?_; rintro e w' ⟨rfl, rfl⟩)
    go_ret2
    exact ⟨_, rfl, hm, h0⟩
set_option maxHeartbeats 2000000 in
theorem implMendPage_any (v : Value) (L : List (Nat → Nat)) (p : Int) (w : World) (hL : ltL L) (wf : (Lit.int .i64 p).wf = true) (h : SlAt eFr w w.heap.size v L) :
    Calls Try.prog 43 #[v, .int .i64 p] w (GivesL eFr 50 (ifL (meC L p) (meL L p)) (meC L p) w) := by
  have cP := checkPage_any v L p w hL h
  have hml := h.len
  unfold maxLen at hml
  by_cases hz : pgC L p = 0
  · obtain ⟨ho, hp⟩ : okB L = true ∧ hpB L p = true := by
      rcases pgC_cases L p with ⟨_, hc⟩ | ⟨_, _, hc⟩ | ⟨h1, h2, hc⟩
      · omega
      · omega
      · exact ⟨h1, h2⟩
    have hlen := okB_len ho
    have hp' := hpB_iff.1 hp
    rw [hz] at cP
    obtain ⟨q, rfl⟩ := Int.eq_ofNat_of_zero_le hp'.1
    have hq : q < L.length := by omega
    have hmc : meC L q = if hpB L ((q : Int) - 1) && hpB L ((q : Int) + 1) then 0 else 6 := if_pos hz
    have kw1 : IntKind.i64.wrap ((q : Int) - 1) = (q : Int) - 1 := IntWalk.i64_in _ (by omega)
    have kw2 : IntKind.i64.wrap ((q : Int) + 1) = (q : Int) + 1 := IntWalk.i64_in _ (by omega)
    clear hz ho hp hp'
    have h' := h
    obtain ⟨A, c, rfl⟩ := h.form
    have cH1 := fun w => hasPage_any A c L ((q : Int) - 1) w
    have cH2 := fun w => hasPage_any A c L ((q : Int) + 1) w
    by_cases e0 : hpB L ((q : Int) - 1) && hpB L ((q : Int) + 1)
    case neg =>
      have hm6 : meC L (q : Int) = 6 := by rw [hmc, if_neg e0]
      rw [hm6, ifL1 _ (by decide)]
      cases e1 : hpB L ((q : Int) - 1) with
      | false =>
        rw [e1] at cH1
        clear hmc hm6 h e0 e1 cH2 h'
        go_enter Try.func43, Try.ntmps43
        go_wp2_with (first | (go_at_call 72; refine cP.mono ?_; rintro e w1 ⟨rfl, hb1⟩) | (go_at_call 73; refine (cH1 _).mono ?_; rintro e w' ⟨rfl, rfl⟩))
        go_ret2
        exact ⟨_, rfl, OwnL.nil_ _ _ _, hb1⟩
      | true =>
        have e2 : hpB L ((q : Int) + 1) = false := by cases h2 : hpB L ((q : Int) + 1) <;> simp_all
        rw [e1] at cH1
        rw [e2] at cH2
        have CH2 := Lib.hid cH2
        clear hmc hm6 h e0 e1 e2 cH2 h'
        go_enter Try.func43, Try.ntmps43
        go_wp2_with fail
        refine cP.mono ?_
        rintro e w1 ⟨rfl, hb1⟩
        go_wp2_with fail
        refine (cH1 _).mono ?_
        rintro e w' ⟨rfl, rfl⟩
        go_wp2_with fail
        refine (CH2.out _).mono ?_
        rintro e w' ⟨rfl, rfl⟩
        go_wp2
        go_ret2
        exact ⟨_, rfl, OwnL.nil_ _ _ _, hb1⟩
    case pos =>
      have hm0 : meC L (q : Int) = 0 := by rw [hmc, if_pos e0]
      rw [Bool.and_eq_true] at e0
      obtain ⟨e1, e2⟩ := e0
      have g1 := hpB_iff.1 e1
      have g2 := hpB_iff.1 e2
      rw [e1] at cH1
      rw [e2] at cH2
      rw [hm0, ifL0]
      unfold meL
      obtain ⟨a, ha⟩ : ∃ a : Nat, q = a + 1 := ⟨q - 1, by omega⟩
      have t1 : ((q : Int) - 1).toNat = a := by omega
      have t2 : ((q : Int) + 1).toNat = q + 1 := by omega
      rw [t1, t2, Int.toNat_natCast]
      have k1 : IntKind.i64.wrap ((q : Int) - 1) = (a : Int) := by rw [IntWalk.i64_in _ (by omega)]; omega
      have k2 : IntKind.i64.wrap ((q : Int) + 1) = ((q + 1 : Nat) : Int) := by rw [IntWalk.i64_in _ (by omega)]; rfl
      generalize hq1 : q + 1 = b at *
      have hal : a < L.length := by omega
      have hbl : b < L.length := by omega
      have hz0 : 0 < L.length := by omega
      obtain ⟨A', c', he, h1, h2, hA⟩ := id h
      cases he
      obtain ⟨pb, po, rfl, hbb, r1⟩ := hA (by omega)
      have cJ := fun W => majority_any (fAt L a) (fAt L q) (fAt L b) (fAt_lt hL _) (fAt_lt hL _) (fAt_lt hL _) W
      have cC := fun (W : World) (hB : Below w.heap.size w W) => clone_any _ L W (by omega) hz0 (h.later hB)
      have s1 := range_part r1 (fAt_get hal)
      have s2 := range_part r1 (fAt_get hq)
      have s3 := range_part r1 (fAt_get hbl)
      rw [eFr_n] at s1 s2 s3
      generalize majF (fAt L a) (fAt L q) (fAt L b) = r at *
      have CH2 := Lib.hid cH2
      have CJ := Lib.hid cJ
      have CC := Lib.hid cC
      have K1 := Lib.hid k1
      have K2 := Lib.hid k2
      clear hmc hm0 cJ cC e1 e2 t1 t2 ha hA r1 h h' cH2 k1 k2 g1 g2
      go_enter Try.func43, Try.ntmps43
      go_wp2_with fail
      refine cP.mono ?_
      rintro e w1 ⟨rfl, hb1⟩
      go_wp2_with fail
      refine (cH1 _).mono ?_
      rintro e w' ⟨rfl, rfl⟩
      go_wp2_with fail
      refine (CH2.out _).mono ?_
      rintro e w' ⟨rfl, rfl⟩
      clear kw1 kw2 CH2 cH1 cP
      go_wp2_with fail
      refine (CC.out _ hb1).mono ?_
      rintro e w2 ⟨u, rfl, hown, hb2⟩
      replace hown := hown.mono hb1.size
      replace hb2 := hb1.trans (hb2.mono hb1.size)
      rcases hown.form with ⟨_, h9⟩ | ⟨g, cap, R, rfl, hgb, hgl, hcap, hcm, _⟩
      · rw [h9] at hq; exact absurd hq (by simp)
      unfold maxLen at hcm
      replace s1 := range_below s1 hb2 hbb
      replace s2 := range_below s2 hb2 hbb
      replace s3 := range_below s3 hb2 hbb
      have lb : pb < w2.heap.size := Nat.lt_of_lt_of_le hbb hb2.size
      have k1 := K1.out
      have k2 := K2.out
      clear CC hb1
      go_wp2_with fail
      refine wp_region_tail 18 (by kernel_rfl) (by kernel_rfl) ?_
      simp only [List.take_succ_cons, List.take_zero, List.drop_succ_cons, List.drop_zero]
      repeat (first | (refine wpQuiet_load_at rfl 50 48 _ rfl _ _ rfl (by first | exact s1 | exact s2 | exact s3) lb Try.underlying50 (by kernel_rfl) ?_) | quiet_step (first | with_reducible exact Calls.regrown_of (CJ.out _)))
      refine wpQuiet_nil ?_
      intro w5 hb5
      replace hown := hown.below hb5
      replace hb2 := grown_below hb2 hb5 hb2.size
      clear hb5 s1 s2 s3
      go_wp2_with (refine wpList_store_own (t := 50) rfl 50 _ _ rfl hown (i := q) hq rfl rfl r rfl rfl (by kernel_rfl) ?_; intro hown2 hw2)
      go_ret2
      exact ⟨_, rfl, hown2, hw2.below hb2 hgb hb2.size⟩
  · have hc : meC L p = pgC L p := if_neg hz
    rw [hc, ifL1 _ hz]
    obtain ⟨A, c, rfl⟩ := h.form
    have d0 : (pgC L p != 0) = true := by simpa using hz
    clear hc h hz
    generalize pgC L p = cc at *
    go_enter Try.func43, Try.ntmps43
    go_wp2_with (go_at_call 72; refine cP.mono ?_; rintro e w1 ⟨rfl, hb1⟩)
    go_ret2
    exact ⟨_, rfl, OwnL.nil_ _ _ _, hb1⟩
end Go.Proofs.Ytennmnkjdchbhaa
