/- spec: ArcTrack. -/
import Derived.Test.YtoccklhfiojemaaDoorArcJ
import Derived.Test.YtoccklhfiojemaaDoorShiftS
namespace Go.Proofs.YtoccklhfiojemaaDoor
set_option maxRecDepth 100000
open Go.RowKit
set_option linter.unusedVariables false
set_option linter.unusedSimpArgs false
theorem arC_if_len (l : Int) (L : List (Int × Int × Int)) : (ifL (arC l L) (arcL l L)).length ≤ 1000 := by
  by_cases hc : arC l L = 0
  · have ho : okT L = true := by
      cases h : okT L with
      | true => rfl
      | false => unfold arC chC at hc; rw [h] at hc; simp at hc
    rw [hc, ifL0]
    have := (okT_iff.1 ho).1
    have := arcTo_len l L L.length
    unfold arcL
    omega
  · rw [ifL1 _ hc]; simp
set_option maxHeartbeats 4000000 in
theorem specArcTrack_any (v : Value) (L : List (Int × Int × Int)) (l : Int) (w : World) (hL : ltK L) (h : SlAt eKy w w.heap.size v L) :
    Calls Tryd.prog 31 #[v, .int .i64 l] w (GivesL eKy 55 (ifL (arC l L) (arcL l L)) (arC l L) w) := by
  have cR := fun w => specReach_any l w
  have cA := specAsked_any v L 0 (inB l (-24) 24) w hL h
  have hv : arC l L = chC L (inB l (-24) 24) (arcL l L) := rfl
  by_cases hall : wyC L 0 (inB l (-24) 24) = 0
  case neg =>
    have hsc : arC l L = wyC L 0 (inB l (-24) 24) := by
      rw [hv, wyC_zero]
      rw [wyC_zero] at hall
      unfold chC
      cases hok : okT L with
      | false => rfl
      | true =>
        cases hf : inB l (-24) 24 with
        | false => rfl
        | true => rw [hf, hok] at hall; simp at hall
    rw [hsc, ifL1 _ hall]
    have hne : (wyC L 0 (inB l (-24) 24) != 0) = true := by simp [hall]
    obtain ⟨A, c, rfl⟩ := h.form
    clear h hv hsc hL
    generalize wyC L 0 (inB l (-24) 24) = c0 at *
    generalize inB l (-24) 24 = f at *
    clear hall
    go_enter Tryd.func31, Tryd.ntmps31
    go_wp2_with (first | (go_at_call 58; refine (cR _).mono ?_; rintro r w' ⟨rfl, rfl⟩; clear cR) | (go_at_call 33; refine cA.mono ?_; rintro r w1 ⟨rfl, hb⟩; clear cA))
    go_ret2
    exact ⟨_, rfl, OwnL.made _ w.heap.size 55 hb.size, hb.alloc hb.size _⟩
  case pos =>
    have hof : okT L = true ∧ inB l (-24) 24 = true := by
      rw [wyC_zero] at hall
      cases ho : okT L with
      | false => rw [ho] at hall; simp at hall
      | true =>
        cases hf : inB l (-24) 24 with
        | false => rw [ho, hf] at hall; simp at hall
        | true => exact ⟨rfl, rfl⟩
    have ho := hof.1
    have hf := hof.2
    have hsc : arC l L = mdC (arcL l L) := by rw [hv]; unfold chC mdC; rw [ho, hf]; rfl
    rw [hsc]
    rw [hall] at cA
    have hq1 := inB_iff.1 hf
    rw [hf] at cR cA
    have hlen := (okT_iff.1 ho).1
    have cM := Lib.hid (fun (u : Value) (w2 : World) (hu : SlAt e3 w2 w2.heap.size u (arcL l L)) => made_any u (arcL l L) w2 (by have := arcTo_len l L L.length; unfold arcL; omega) hu)
    have hU := Lib.hid (show arcL l L = arcTo l L L.length from rfl)
    obtain ⟨A, c, rfl, h1, h2, hA⟩ := h
    obtain ⟨b1, o1, rfl, hb1, r1⟩ := hA (by omega)
    have hl1 := hlen.1
    have hl2 := hlen.2
    clear hv hsc hL hall hof hf hA h2 hlen
    go_enter Tryd.func31, Tryd.ntmps31
    go_wp2_with (first | (go_at_call 58; refine (cR _).mono ?_; rintro r w' ⟨rfl, rfl⟩; clear cR) | (go_at_call 33; refine cA.mono ?_; rintro r w1 ⟨rfl, hb⟩; clear cA; have hown := OwnL.made (E := e3) w1 w.heap.size 70 hb.size; have h0 := hb.alloc hb.size (.cells #[] 70)))
    go_loopw [7, 8] (fun u i wr => ∃ k : Nat, k ≤ L.length ∧ i = .int .i64 k ∧ OwnL e3 wr w.heap.size 70 u (arcTo l L k) ∧ Below w.heap.size w wr) (fun _ i _ => L.length - (intOf i).toNat)
    case atStart => exact ⟨0, by omega, rfl, hown, h0⟩
    case round =>
      clear hown h0 hb
      obtain ⟨k, hk, rfl, hown, hb⟩ := hrel
      by_cases hlt : k < L.length
      · have g1 := range_below (range_part r1 (kAt_get hlt)) hb hb1
        rw [eKy_n] at g1
        have q := okT_key ho hlt
        have HS := Lib.hid (arcTo_succ l L k)
        have hll := arcTo_len l L k
        rcases k with _ | n
        · have H0 := Lib.hid (arcS0 l L)
          obtain ⟨t1, a1, c1, hk1⟩ : ∃ t a c, kAt L 0 = (t, a, c) := ⟨_, _, _, rfl⟩
          rw [hk1] at g1 q H0
          dsimp only at q H0
          have cN1 := fun w => numbers_any t1 a1 c1 w ⟨by omega, by omega⟩ ⟨by omega, by omega⟩ ⟨by omega, by omega⟩
          unfold N3 at cN1
          dsimp only at cN1
          clear r1 ho hk1 q
          have hk0 : ((0 : Nat) : Int) = 0 := rfl
          go_wp2_with (first | (refine wpList_load_el (E := eKy) rfl 55 _ rfl _ _ rfl (t1, a1, c1) (KC (t1, a1, c1)) rfl g1 Tryd.underlying55 rfl (by kernel_rfl) ?_) | (refine wpList_load_el (E := eKy) rfl 55 _ rfl _ _ rfl (t2, a2, c2) (KC (t2, a2, c2)) rfl g2 Tryd.underlying55 rfl (by kernel_rfl) ?_) | (go_at_call 48; refine (cN1 _).mono ?_; rintro r w3 ⟨rfl, hb3⟩; replace hown := hown.below hb3; replace hb := grown_below hb hb3 hb.size; have hs3 := hb.size; have hn9 := hown.ne_hi (Nat.le_refl w3.heap.size); have r9 := Row.new w3 70 #[.int .i64 t1, .int .i64 a1, .int .i64 c1]; replace hown := hown.alloc (.cells #[.int .i64 t1, .int .i64 a1, .int .i64 c1] 70); replace hb := hb.alloc hb.size (.cells #[.int .i64 t1, .int .i64 a1, .int .i64 c1] 70); clear hb3 cN1 g1; skip) | (go_at_call 48; refine (cN2 _).mono ?_; rintro r w5 ⟨rfl, hb5⟩; replace hown := hown.below hb5; replace hb := grown_below hb hb5 hb.size; have hs5 := hb.size; replace r9 := (r9.below hb5 r9.lt).alloc (.cells #[.int .i64 t2, .int .i64 a2, .int .i64 c2] 70); have r10 := Row.new w5 70 #[.int .i64 t2, .int .i64 a2, .int .i64 c2]; replace hown := hown.alloc (.cells #[.int .i64 t2, .int .i64 a2, .int .i64 c2] 70); replace hb := hb.alloc hb.size (.cells #[.int .i64 t2, .int .i64 a2, .int .i64 c2] 70); have x9 : (w5.alloc (.cells #[.int .i64 t2, .int .i64 a2, .int .i64 c2] 70)).cell? ⟨w3.heap.size, 0, none⟩ = some (.int .i64 t1) := r9.cell 0; have y9 : (w5.alloc (.cells #[.int .i64 t2, .int .i64 a2, .int .i64 c2] 70)).cell? ⟨w3.heap.size, 1, none⟩ = some (.int .i64 a1) := r9.cell 1; have z9 : (w5.alloc (.cells #[.int .i64 t2, .int .i64 a2, .int .i64 c2] 70)).cell? ⟨w3.heap.size, 2, none⟩ = some (.int .i64 c1) := r9.cell 2; have x10 : (w5.alloc (.cells #[.int .i64 t2, .int .i64 a2, .int .i64 c2] 70)).cell? ⟨w5.heap.size, 0, none⟩ = some (.int .i64 t2) := r10.cell 0; have y10 : (w5.alloc (.cells #[.int .i64 t2, .int .i64 a2, .int .i64 c2] 70)).cell? ⟨w5.heap.size, 1, none⟩ = some (.int .i64 a2) := r10.cell 1; have z10 : (w5.alloc (.cells #[.int .i64 t2, .int .i64 a2, .int .i64 c2] 70)).cell? ⟨w5.heap.size, 2, none⟩ = some (.int .i64 c2) := r10.cell 2; clear hb5 cN2 g2) | (refine wpList_load_row rfl 70 _ rfl _ rfl _ _ _ _ r9 Tryd.underlying70 rfl (by kernel_rfl) ?_) | (refine wpList_build1 (v := .agg (N3 (t1, a1, c1))) (cs := N3 (t1, a1, c1)) rfl 69 70 _ rfl rfl (fun w => run_build_n3s w (t1, a1, c1)) ?_) | (at_builtin; refine wpList_append_one rfl _ _ 69 rfl w.heap.size 70 Tryd.underlying69 infoN3 rfl (by decide) (by omega) (hown.alloc (.cells (N3 (t1, a1, c1)) 70)) rfl (t1, a1, c1) rfl (range_new _ _ (N3 (t1, a1, c1))) (by omega) (by simp; omega) ?_; intro v' w6 hown' hgrow))
          go_roundw
          case rel =>
            go_light
            refine ⟨1, by omega, rfl, ?_, (hown.alloc _).grown_below (hb.alloc hb.size _) hgrow (Nat.le_refl _) (by simp; omega)⟩
            rw [HS.out, H0.out]; simpa using hown'
          case measure => simp [intOf]; omega
        · have G2 := Lib.hid (range_part r1 (kAt_get (i := n) (by omega)))
          have q' := okT_key ho (i := n) (by omega)
          have HN := Lib.hid (arcS_near l L n)
          have HF := Lib.hid (arcS_far l L n)
          obtain ⟨t1, a1, c1, hk1⟩ : ∃ t a c, kAt L (n + 1) = (t, a, c) := ⟨_, _, _, rfl⟩
          obtain ⟨t2, a2, c2, hk2⟩ : ∃ t a c, kAt L n = (t, a, c) := ⟨_, _, _, rfl⟩
          rw [eKy_n] at G2
          rw [hk1] at g1 q HN HF
          rw [hk2] at G2 q' HN HF
          dsimp only at q q' HN HF
          have cN1 := fun w => numbers_any t1 a1 c1 w ⟨by omega, by omega⟩ ⟨by omega, by omega⟩ ⟨by omega, by omega⟩
          have cN2 := fun w => numbers_any t2 a2 c2 w ⟨by omega, by omega⟩ ⟨by omega, by omega⟩ ⟨by omega, by omega⟩
          unfold N3 at cN1 cN2
          dsimp only at cN1 cN2
          generalize hkn : n + 1 = k at *
          have hkp : (0 : Int) < (k : Int) := by omega
          have hkw : IntKind.i64.wrap ((k : Int) - 1) = (n : Int) := by rw [IntWalk.i64_in _ (by omega)]; omega
          have k1 : IntKind.i64.wrap (t1 - t2) = t1 - t2 := IntWalk.i64_in _ (by omega)
          clear r1 ho hk1 hk2
          by_cases hg : 2 ≤ t1 - t2
          · have hg' : t1 - t2 ≥ 2 := hg
            have kq : IntKind.i64.wrap (t2 + t1) = t2 + t1 := IntWalk.i64_in _ (by omega)
            have bX := betI_bounds (lo := -24) (hi := 24) (a := a2) (b := a1) (s := 500) q'.2.1 q.2.1 (by omega)
            have bY := betI_bounds (lo := -24) (hi := 24) (a := c2) (b := c1) (s := 500) q'.2.2 q.2.2 (by omega)
            have cX := fun w => specBetween_any a2 a1 500 w ⟨by omega, by omega⟩ ⟨by omega, by omega⟩ (by omega)
            have cZ := fun w => to_below (specBetween_any c2 c1 500 w ⟨by omega, by omega⟩ ⟨by omega, by omega⟩ (by omega))
            have HV := Lib.hid (HF.out hg)
            clear HN HF
            rw [show midK l (t2, a2, c2) (t1, a1, c1) = ((t2 + t1) / 2, betI a2 a1 500, betI c2 c1 500 - l) from rfl] at HV
            generalize betI a2 a1 500 = X at *
            generalize betI c2 c1 500 = Y at *
            have kY : IntKind.i64.wrap (Y - l) = Y - l := IntWalk.i64_in _ (by omega)
            have kh : IntKind.i64.wrap ((t2 + t1).tdiv 2) = (t2 + t1) / 2 := by rw [Int.tdiv_eq_ediv_of_nonneg (by omega)]; exact IntWalk.i64_in _ (by omega)
            have kh' : wrap64 ((t2 + t1) / 2) = (t2 + t1) / 2 := IntWalk.wrap64_in _ (by omega)
            generalize hmm : (t2 + t1) / 2 = m at *
            clear q q' bX bY
            go_wp2_with (first | (refine wpList_load_el (E := eKy) rfl 55 _ rfl _ _ rfl (t1, a1, c1) (KC (t1, a1, c1)) rfl g1 Tryd.underlying55 rfl (by kernel_rfl) ?_) | (refine wpList_load_el (E := eKy) rfl 55 _ rfl _ _ rfl (t2, a2, c2) (KC (t2, a2, c2)) rfl g2 Tryd.underlying55 rfl (by kernel_rfl) ?_) | (go_at_call 48; refine (cN1 _).mono ?_; rintro r w3 ⟨rfl, hb3⟩; replace hown := hown.below hb3; replace hb := grown_below hb hb3 hb.size; have hs3 := hb.size; have hn9 := hown.ne_hi (Nat.le_refl w3.heap.size); have r9 := Row.new w3 70 #[.int .i64 t1, .int .i64 a1, .int .i64 c1]; replace hown := hown.alloc (.cells #[.int .i64 t1, .int .i64 a1, .int .i64 c1] 70); replace hb := hb.alloc hb.size (.cells #[.int .i64 t1, .int .i64 a1, .int .i64 c1] 70); clear hb3 cN1 g1; have g2 := range_below G2.out hb hb1) | (go_at_call 48; refine (cN2 _).mono ?_; rintro r w5 ⟨rfl, hb5⟩; replace hown := hown.below hb5; replace hb := grown_below hb hb5 hb.size; have hs5 := hb.size; replace r9 := (r9.below hb5 r9.lt).alloc (.cells #[.int .i64 t2, .int .i64 a2, .int .i64 c2] 70); have r10 := Row.new w5 70 #[.int .i64 t2, .int .i64 a2, .int .i64 c2]; replace hown := hown.alloc (.cells #[.int .i64 t2, .int .i64 a2, .int .i64 c2] 70); replace hb := hb.alloc hb.size (.cells #[.int .i64 t2, .int .i64 a2, .int .i64 c2] 70); have x9 : (w5.alloc (.cells #[.int .i64 t2, .int .i64 a2, .int .i64 c2] 70)).cell? ⟨w3.heap.size, 0, none⟩ = some (.int .i64 t1) := r9.cell 0; have y9 : (w5.alloc (.cells #[.int .i64 t2, .int .i64 a2, .int .i64 c2] 70)).cell? ⟨w3.heap.size, 1, none⟩ = some (.int .i64 a1) := r9.cell 1; have z9 : (w5.alloc (.cells #[.int .i64 t2, .int .i64 a2, .int .i64 c2] 70)).cell? ⟨w3.heap.size, 2, none⟩ = some (.int .i64 c1) := r9.cell 2; have x10 : (w5.alloc (.cells #[.int .i64 t2, .int .i64 a2, .int .i64 c2] 70)).cell? ⟨w5.heap.size, 0, none⟩ = some (.int .i64 t2) := r10.cell 0; have y10 : (w5.alloc (.cells #[.int .i64 t2, .int .i64 a2, .int .i64 c2] 70)).cell? ⟨w5.heap.size, 1, none⟩ = some (.int .i64 a2) := r10.cell 1; have z10 : (w5.alloc (.cells #[.int .i64 t2, .int .i64 a2, .int .i64 c2] 70)).cell? ⟨w5.heap.size, 2, none⟩ = some (.int .i64 c2) := r10.cell 2; clear hb5 cN2 g2) | (go_at_call 59; refine (cX _).mono ?_; rintro r w6 ⟨rfl, rfl⟩; clear cX))
            have u1 := cell_q x10
            have u2 := cell_q x9
            have u3 := cell_q z10
            have u4 := cell_q z9
            refine wp_region_pre_tail 1 16 (by kernel_rfl) (by kernel_rfl) ?_
            simp only [List.take_succ_cons, List.take_zero, List.drop_succ_cons, List.drop_zero, runMoves, moveOf, Option.isNone_none, if_true]
            go_simp
            repeat (quiet_step (exact Calls.regrown_of (cZ _)))
            refine wpQuiet_nil ?_
            intro w6 hb6'
            have hb6 : Below (w5.alloc (.cells #[.int .i64 t2, .int .i64 a2, .int .i64 c2] 70)).heap.size (w5.alloc (.cells #[.int .i64 t2, .int .i64 a2, .int .i64 c2] 70)) w6 := by rw [World.size_alloc]; exact hb6'
            clear hb6'
            replace hown := hown.below hb6
            replace hb := grown_below hb hb6 hb.size
            replace r9 := r9.below hb6 r9.lt
            have hs6 := hb.size
            clear u1 u2 u3 u4 x9 y9 z9 x10 y10 z10 hb6 r10
            go_wp2_with (first | (refine wpList_build1 (v := .agg (N3 (m, X, Y - l))) (cs := N3 (m, X, Y - l)) rfl 69 70 _ rfl rfl (fun w => run_build_n3s w (m, X, Y - l)) ?_) | (at_builtin; refine wpList_append_one rfl _ _ 69 rfl w.heap.size 70 Tryd.underlying69 infoN3 rfl (by decide) (by omega) (hown.alloc (.cells (N3 (m, X, Y - l)) 70)) rfl (m, X, Y - l) rfl (range_new _ _ (N3 (m, X, Y - l))) (by omega) (by simp; omega) ?_; intro v5 w7 hown5 hgrow; replace hb := (hown.alloc (.cells (N3 (m, X, Y - l)) 70)).grown_below (hb.alloc hb.size (.cells (N3 (m, X, Y - l)) 70)) hgrow (Nat.le_refl _) (by simp; omega); replace r9 := rowGrown (r9.alloc (.cells (N3 (m, X, Y - l)) 70)) hgrow hn9; clear hown hgrow hn9; have hs7 := hb.size; have hl5 : (arcTo l L k ++ [(m, X, Y - l)]).length = (arcTo l L k).length + 1 := by simp))
            rw [normalOnly_normal]
            go_wp2_with (first | (refine wpList_load_row rfl 70 _ rfl _ rfl _ _ _ _ r9 Tryd.underlying70 rfl (by kernel_rfl) ?_) | (refine wpList_build1 (v := .agg (N3 (t1, a1, c1))) (cs := N3 (t1, a1, c1)) rfl 69 70 _ rfl rfl (fun w => run_build_n3s w (t1, a1, c1)) ?_) | (at_builtin; refine wpList_append_one rfl _ _ 69 rfl w.heap.size 70 Tryd.underlying69 infoN3 rfl (by decide) (by omega) (hown5.alloc (.cells (N3 (t1, a1, c1)) 70)) rfl (t1, a1, c1) rfl (range_new _ _ (N3 (t1, a1, c1))) (by rw [hl5]; omega) (by simp; omega) ?_; intro v' w8 hown' hgrow))
            go_roundw
            case rel =>
              go_light
              refine ⟨k + 1, by omega, by go_num, ?_, (hown5.alloc _).grown_below (hb.alloc hb.size _) hgrow (Nat.le_refl _) (by simp; omega)⟩
              rw [HS.out, HV.out]; simpa using hown'
            case measure => simp [intOf]; omega
          · have hg' : ¬ t1 - t2 ≥ 2 := hg
            replace HN := Lib.hid (HN.out hg)
            clear HF q q'
            go_wp2_with (first | (refine wpList_load_el (E := eKy) rfl 55 _ rfl _ _ rfl (t1, a1, c1) (KC (t1, a1, c1)) rfl g1 Tryd.underlying55 rfl (by kernel_rfl) ?_) | (refine wpList_load_el (E := eKy) rfl 55 _ rfl _ _ rfl (t2, a2, c2) (KC (t2, a2, c2)) rfl g2 Tryd.underlying55 rfl (by kernel_rfl) ?_) | (go_at_call 48; refine (cN1 _).mono ?_; rintro r w3 ⟨rfl, hb3⟩; replace hown := hown.below hb3; replace hb := grown_below hb hb3 hb.size; have hs3 := hb.size; have hn9 := hown.ne_hi (Nat.le_refl w3.heap.size); have r9 := Row.new w3 70 #[.int .i64 t1, .int .i64 a1, .int .i64 c1]; replace hown := hown.alloc (.cells #[.int .i64 t1, .int .i64 a1, .int .i64 c1] 70); replace hb := hb.alloc hb.size (.cells #[.int .i64 t1, .int .i64 a1, .int .i64 c1] 70); clear hb3 cN1 g1; have g2 := range_below G2.out hb hb1) | (go_at_call 48; refine (cN2 _).mono ?_; rintro r w5 ⟨rfl, hb5⟩; replace hown := hown.below hb5; replace hb := grown_below hb hb5 hb.size; have hs5 := hb.size; replace r9 := (r9.below hb5 r9.lt).alloc (.cells #[.int .i64 t2, .int .i64 a2, .int .i64 c2] 70); have r10 := Row.new w5 70 #[.int .i64 t2, .int .i64 a2, .int .i64 c2]; replace hown := hown.alloc (.cells #[.int .i64 t2, .int .i64 a2, .int .i64 c2] 70); replace hb := hb.alloc hb.size (.cells #[.int .i64 t2, .int .i64 a2, .int .i64 c2] 70); have x9 : (w5.alloc (.cells #[.int .i64 t2, .int .i64 a2, .int .i64 c2] 70)).cell? ⟨w3.heap.size, 0, none⟩ = some (.int .i64 t1) := r9.cell 0; have y9 : (w5.alloc (.cells #[.int .i64 t2, .int .i64 a2, .int .i64 c2] 70)).cell? ⟨w3.heap.size, 1, none⟩ = some (.int .i64 a1) := r9.cell 1; have z9 : (w5.alloc (.cells #[.int .i64 t2, .int .i64 a2, .int .i64 c2] 70)).cell? ⟨w3.heap.size, 2, none⟩ = some (.int .i64 c1) := r9.cell 2; have x10 : (w5.alloc (.cells #[.int .i64 t2, .int .i64 a2, .int .i64 c2] 70)).cell? ⟨w5.heap.size, 0, none⟩ = some (.int .i64 t2) := r10.cell 0; have y10 : (w5.alloc (.cells #[.int .i64 t2, .int .i64 a2, .int .i64 c2] 70)).cell? ⟨w5.heap.size, 1, none⟩ = some (.int .i64 a2) := r10.cell 1; have z10 : (w5.alloc (.cells #[.int .i64 t2, .int .i64 a2, .int .i64 c2] 70)).cell? ⟨w5.heap.size, 2, none⟩ = some (.int .i64 c2) := r10.cell 2; clear hb5 cN2 g2) | (refine wpList_load_row rfl 70 _ rfl _ rfl _ _ _ _ r9 Tryd.underlying70 rfl (by kernel_rfl) ?_) | (refine wpList_build1 (v := .agg (N3 (t1, a1, c1))) (cs := N3 (t1, a1, c1)) rfl 69 70 _ rfl rfl (fun w => run_build_n3s w (t1, a1, c1)) ?_) | (at_builtin; refine wpList_append_one rfl _ _ 69 rfl w.heap.size 70 Tryd.underlying69 infoN3 rfl (by decide) (by omega) (hown.alloc (.cells (N3 (t1, a1, c1)) 70)) rfl (t1, a1, c1) rfl (range_new _ _ (N3 (t1, a1, c1))) (by omega) (by simp; omega) ?_; intro v' w6 hown' hgrow))
            go_roundw
            case rel =>
              go_light
              refine ⟨k + 1, by omega, by go_num, ?_, (hown.alloc _).grown_below (hb.alloc hb.size _) hgrow (Nat.le_refl _) (by simp; omega)⟩
              rw [HS.out, HN.out]; simpa using hown'
            case measure => simp [intOf]; omega
      · have hkl : k = L.length := by omega
        subst hkl
        rw [← hU.out] at hown
        clear hU r1 ho
        go_wp2_with fail
        refine (cM.out _ _ (hown.sl (by decide))).mono ?_
        rintro r w4 ⟨u, rfl, hown4, hb4⟩
        go_wp2
        go_ret2
        exact ⟨_, rfl, hown4.mono hb.size, grown_below hb hb4 hb.size⟩
end Go.Proofs.YtoccklhfiojemaaDoor
