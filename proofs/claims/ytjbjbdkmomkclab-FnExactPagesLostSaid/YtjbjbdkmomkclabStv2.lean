/- STEPS: when steps are valid. spec: l06Step, l06Ok, ValidSteps; impl: Step.hasRows, Step.hasBase, ValidSteps. -/
import Derived.Test.YtjbjbdkmomkclabStv
namespace Go.Proofs.Ytjbjbdkmomkclab
set_option maxRecDepth 100000
open Go.RowKit
set_option linter.unusedVariables false
set_option linter.unusedSimpArgs false
theorem okBase_far {h : Hd} {i : Int} (ho : okBase h i = true) : inB h.1 0 2 = true ∧ inB h.2.2.1 (-12) 12 = true ∧ inB h.2.2.2 (-12) 12 = true := by
  obtain ⟨q, p, e, s⟩ := h
  unfold okBase stillB at ho
  simp only at ho ⊢
  split at ho
  · rename_i h0
    simp only [Bool.and_eq_true, beq_iff_eq] at ho
    obtain ⟨_, he, hs⟩ := ho
    subst h0 he hs
    exact ⟨rfl, rfl, rfl⟩
  · split at ho
    · rename_i h0
      simp only [Bool.and_eq_true, beq_iff_eq] at ho
      obtain ⟨_, he, hs⟩ := ho
      subst h0 he hs
      exact ⟨rfl, rfl, rfl⟩
    · split at ho
      · rename_i h0
        simp only [Bool.and_eq_true] at ho
        subst h0
        exact ⟨rfl, ho.2.1, ho.2.2⟩
      · cases ho
set_option maxHeartbeats 4000000 in
theorem specStep_any (b o : Nat) (st : Stp) (z : Value) (i : Int) (w : World) (hs : ltSt1 st) (hi : 0 ≤ i ∧ i ≤ 1000000000000) (r : w.rangeAt b o (StC st.1 z).toList) (hbl : b < w.heap.size) (hz : SlAt eCg w w.heap.size z st.2) :
    Calls Try.prog 85 #[.pointer (some ⟨b, o, none⟩), .int .i64 i] w fun e w' => e = .returned (.bool (okStpB st i)) ∧ Below w.heap.size w w' := by
  obtain ⟨⟨q, p, e, s⟩, L⟩ := st
  obtain ⟨hh, hL⟩ := hs
  have hq := hh.1
  have hp := hh.2.1
  have he := hh.2.2.1
  have hs := hh.2.2.2
  simp only at hq hp he hs r hz hL
  have c0 := st_cell0 r
  have c1 := st_cell1 r
  have c2 := st_cell2 r
  have c3 := st_cell3 r
  have c4 := st_cell4 r
  simp only at c0 c1 c2 c3 c4
  have wq : IntKind.i64.wrap q = q := IntWalk.i64_in _ (by omega)
  have wp : IntKind.i64.wrap p = p := IntWalk.i64_in _ (by omega)
  have we : IntKind.i64.wrap e = e := IntWalk.i64_in _ (by omega)
  have ws : IntKind.i64.wrap s = s := IntWalk.i64_in _ (by omega)
  have wi : IntKind.i64.wrap (i - 1) = i - 1 := IntWalk.i64_in _ (by omega)
  have cH := fun w => how_any q w
  have cF1 := fun w => far_any e w
  have cF2 := fun w => far_any s w
  have cI := fun w => in_any p 0 (i - 1) w
  have cR := specRows_any z L w hL hz
  have hb := Below.refl w.heap.size w
  have hfar := fun h => okBase_far (h := (q, p, e, s)) (i := i) h
  simp only at hfar
  have hF : ∀ R : Bool, (okBase (q, p, e, s) i = true → False) → okStpB ((q, p, e, s), L) i = false := fun R h => by
    unfold okStpB
    cases ho : okBase (q, p, e, s) i with
    | false => rfl
    | true => exact absurd ho h
  clear hz
  cases hA : inB q 0 2 with
  | false =>
    have HF := Lib.hid (hF true (fun h => by have := (hfar h).1; rw [hA] at this; cases this))
    rw [hA] at cH
    clear hF hfar cF1 cF2 cI cR hA hh
    go_enter Try.func85, Try.ntmps85
    go_wp2_with (go_at_call 109; refine (cH _).mono ?_; rintro e w' ⟨rfl, rfl⟩)
    go_ret
    exact ⟨ret_bool HF.out.symm, hb⟩
  | true =>
  cases hB : inB e (-12) 12 with
  | false =>
    have HF := Lib.hid (hF true (fun h => by have := (hfar h).2.1; rw [hB] at this; cases this))
    rw [hA] at cH
    rw [hB] at cF1
    clear hF hfar cF2 cI cR hA hB hh
    go_enter Try.func85, Try.ntmps85
    go_wp2_with (first | (go_at_call 109; refine (cH _).mono ?_; rintro e w' ⟨rfl, rfl⟩) | (go_at_call 110; refine (cF1 _).mono ?_; rintro e w' ⟨rfl, rfl⟩))
    go_ret
    exact ⟨ret_bool HF.out.symm, hb⟩
  | true =>
  cases hC : inB s (-12) 12 with
  | false =>
    have HF := Lib.hid (hF true (fun h => by have := (hfar h).2.2; rw [hC] at this; cases this))
    rw [hA] at cH
    rw [hB] at cF1
    rw [hC] at cF2
    clear hF hfar cI cR hA hB hC hh
    go_enter Try.func85, Try.ntmps85
    go_wp2_with (first | (go_at_call 109; refine (cH _).mono ?_; rintro e w' ⟨rfl, rfl⟩) | (go_at_call 110; first | (refine (cF1 _).mono ?_; rintro e w' ⟨rfl, rfl⟩; clear cF1) | (refine (cF2 _).mono ?_; rintro e w' ⟨rfl, rfl⟩; clear cF2)))
    go_ret
    exact ⟨ret_bool HF.out.symm, hb⟩
  | true =>
  cases hR : okRows L with
  | false =>
    have HF := Lib.hid (show okStpB ((q, p, e, s), L) i = false by unfold okStpB; rw [hR, Bool.and_false])
    rw [hA] at cH
    rw [hB] at cF1
    rw [hC] at cF2
    rw [hR] at cR
    clear hF hfar cI hA hB hC hR hh
    go_enter Try.func85, Try.ntmps85
    go_wp2_with (first | (go_at_call 109; refine (cH _).mono ?_; rintro e w' ⟨rfl, rfl⟩) | (go_at_call 110; first | (refine (cF1 _).mono ?_; rintro e w' ⟨rfl, rfl⟩; clear cF1) | (refine (cF2 _).mono ?_; rintro e w' ⟨rfl, rfl⟩; clear cF2)) | (go_at_call 111; refine cR.mono ?_; rintro e w2 ⟨rfl, hb2⟩; clear cR))
    go_ret
    exact ⟨ret_bool HF.out.symm, hb2⟩
  | true =>
  have hQ : okStpB ((q, p, e, s), L) i = okBase (q, p, e, s) i := by unfold okStpB; rw [hR, Bool.and_true]
  rw [hQ]
  have hq3 := inB_iff.1 hA
  have hBC : (inB e (-12) 12 && inB s (-12) 12) = true := by rw [hB, hC]; rfl
  rw [hA] at cH
  rw [hB] at cF1
  rw [hC] at cF2
  rw [hR] at cR
  have hv0 : q = 0 → okBase (q, p, e, s) i = (p == 0 && (e == 0 && s == 0)) := fun h => by unfold okBase; rw [if_pos h]; rfl
  have hv1 : q = 1 → okBase (q, p, e, s) i = (inB p 0 (i - 1) && (e == 0 && s == 0)) := fun h => by unfold okBase; subst h; rfl
  have hv2 : q = 2 → okBase (q, p, e, s) i = (inB p 0 (i - 1) && !(e == 0 && s == 0)) := fun h => by
    unfold okBase; subst h
    show (inB p 0 (i - 1) && !(e == 0 && s == 0) && (inB e (-12) 12 && inB s (-12) 12)) = _
    rw [hBC, Bool.and_true]
  have HV0 := Lib.hid hv0
  have HV1 := Lib.hid hv1
  have HV2 := Lib.hid hv2
  clear hF hfar hQ hBC hv0 hv1 hv2 hh hA hB hC hR
  generalize okBase (q, p, e, s) i = res at *
  obtain hq0 | hq1 | hq2 : q = 0 ∨ q = 1 ∨ q = 2 := by omega
  · have HR := Lib.hid (HV0.out hq0)
    subst hq0
    clear HV0 HV1 HV2 cI
    cases hP : (p == 0) <;> cases hE : (e == 0) <;> cases hS : (s == 0) <;> (rw [hP, hE, hS] at HR)
    all_goals
      go_enter Try.func85, Try.ntmps85
      go_wp2_with (first | (go_at_call 109; refine (cH _).mono ?_; rintro e w' ⟨rfl, rfl⟩) | (go_at_call 110; first | (refine (cF1 _).mono ?_; rintro e w' ⟨rfl, rfl⟩; clear cF1) | (refine (cF2 _).mono ?_; rintro e w' ⟨rfl, rfl⟩; clear cF2)) | (go_at_call 111; refine cR.mono ?_; rintro e w2 ⟨rfl, hb2⟩; clear cR; clear c0 c1 c2 c3 c4; replace r := range_below r hb2 hbl; have c0 := st_cell0 r; have c1 := st_cell1 r; have c2 := st_cell2 r; have c3 := st_cell3 r; simp only at c0 c1 c2 c3))
      go_ret
      exact ⟨ret_bool HR.out.symm, hb2⟩
  · have HR := Lib.hid (HV1.out hq1)
    subst hq1
    clear HV0 HV1 HV2
    cases hP : inB p 0 (i - 1) <;> cases hE : (e == 0) <;> cases hS : (s == 0) <;> (rw [hP, hE, hS] at HR; rw [hP] at cI)
    all_goals
      go_enter Try.func85, Try.ntmps85
      go_wp2_with (first | (go_at_call 109; refine (cH _).mono ?_; rintro e w' ⟨rfl, rfl⟩) | (go_at_call 110; first | (refine (cF1 _).mono ?_; rintro e w' ⟨rfl, rfl⟩; clear cF1) | (refine (cF2 _).mono ?_; rintro e w' ⟨rfl, rfl⟩; clear cF2)) | (go_at_call 78; refine (cI _).mono ?_; rintro e w' ⟨rfl, rfl⟩) | (go_at_call 111; refine cR.mono ?_; rintro e w2 ⟨rfl, hb2⟩; clear cR; clear c0 c1 c2 c3 c4; replace r := range_below r hb2 hbl; have c0 := st_cell0 r; have c1 := st_cell1 r; have c2 := st_cell2 r; have c3 := st_cell3 r; simp only at c0 c1 c2 c3))
      go_ret
      exact ⟨ret_bool HR.out.symm, hb2⟩
  · have HR := Lib.hid (HV2.out hq2)
    subst hq2
    clear HV0 HV1 HV2
    cases hP : inB p 0 (i - 1) <;> cases hE : (e == 0) <;> cases hS : (s == 0) <;> (rw [hP, hE, hS] at HR; rw [hP] at cI)
    all_goals
      go_enter Try.func85, Try.ntmps85
      go_wp2_with (first | (go_at_call 109; refine (cH _).mono ?_; rintro e w' ⟨rfl, rfl⟩) | (go_at_call 110; first | (refine (cF1 _).mono ?_; rintro e w' ⟨rfl, rfl⟩; clear cF1) | (refine (cF2 _).mono ?_; rintro e w' ⟨rfl, rfl⟩; clear cF2)) | (go_at_call 78; refine (cI _).mono ?_; rintro e w' ⟨rfl, rfl⟩) | (go_at_call 111; refine cR.mono ?_; rintro e w2 ⟨rfl, hb2⟩; clear cR; clear c0 c1 c2 c3 c4; replace r := range_below r hb2 hbl; have c0 := st_cell0 r; have c1 := st_cell1 r; have c2 := st_cell2 r; have c3 := st_cell3 r; simp only at c0 c1 c2 c3))
      go_ret
      exact ⟨ret_bool HR.out.symm, hb2⟩
end Go.Proofs.Ytjbjbdkmomkclab
