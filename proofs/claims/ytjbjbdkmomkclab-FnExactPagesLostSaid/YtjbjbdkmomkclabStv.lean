/- STEPS: when steps are valid. spec: l06How, l06Far, l06Rows, l06Step, l06Ok, ValidSteps. -/
import Derived.Test.YtjbjbdkmomkclabStp0
import Derived.Test.YtjbjbdkmomkclabS1
import Derived.Test.YtjbjbdkmomkclabCellQ
import Derived.Test.YtjbjbdkmomkclabHq
namespace Go.Proofs.Ytjbjbdkmomkclab
set_option maxRecDepth 100000
open Go.RowKit
set_option linter.unusedVariables false
set_option linter.unusedSimpArgs false
/-- A row of a step, as told. -/
def okRowP (L : List (Int × Int)) (k : Nat) : Prop := (0 ≤ (cgAt L k).1 ∧ (cgAt L k).1 ≤ 11) ∧ (1 ≤ (cgAt L k).2 ∧ (cgAt L k).2 ≤ 4095) ∧ (k = 0 ∨ (cgAt L (k - 1)).1 < (cgAt L k).1)
instance okRowP_dec (L : List (Int × Int)) (k : Nat) : Decidable (okRowP L k) := by unfold okRowP; infer_instance
def okRows (L : List (Int × Int)) : Bool := decide (∀ k, k < L.length → okRowP L k)
theorem okRows_true {L : List (Int × Int)} (h : ∀ k, k < L.length → okRowP L k) : okRows L = true := decide_eq_true h
theorem okRows_iff {L : List (Int × Int)} : okRows L = true ↔ ∀ k, k < L.length → okRowP L k := by simp [okRows]
theorem okRows_false {L : List (Int × Int)} {k : Nat} (hk : k < L.length) (h : ¬ okRowP L k) : okRows L = false := decide_eq_false fun e => h (e k hk)
def stillB (h : Hd) : Bool := h.2.2.1 == 0 && h.2.2.2 == 0
/-- The base of a step, as told at an index. -/
def okBase (h : Hd) (i : Int) : Bool :=
  if h.1 = 0 then h.2.1 == 0 && stillB h
  else if h.1 = 1 then inB h.2.1 0 (i - 1) && stillB h
  else if h.1 = 2 then inB h.2.1 0 (i - 1) && !stillB h && (inB h.2.2.1 (-12) 12 && inB h.2.2.2 (-12) 12)
  else false
def okStpB (s : Stp) (i : Int) : Bool := okBase s.1 i && okRows s.2
def okSts (L : List Stp) : Bool := decide (L.length ≤ 40) && decide (∀ k, k < L.length → okStpB (tAt L k) (k : Int) = true)
theorem okSts_iff {L : List Stp} : okSts L = true ↔ L.length ≤ 40 ∧ ∀ k, k < L.length → okStpB (tAt L k) (k : Int) = true := by simp [okSts]
theorem okSts_false_at {L : List Stp} {k : Nat} (hk : k < L.length) (h : okStpB (tAt L k) (k : Int) = false) : okSts L = false := by
  cases ho : okSts L with
  | false => rfl
  | true => have := (okSts_iff.1 ho).2 k hk; rw [h] at this; cases this
theorem okSts_false_len {L : List Stp} (h : 40 < L.length) : okSts L = false := by
  cases ho : okSts L with
  | false => rfl
  | true => have := (okSts_iff.1 ho).1; omega
def okStC (L : List Stp) : Int := if okSts L then 0 else 1
theorem okStC_cases (L : List Stp) : (okSts L = false ∧ okStC L = 1) ∨ (okSts L = true ∧ okStC L = 0) := by unfold okStC; cases okSts L <;> simp
theorem how_any (n : Int) (w : World) : Calls Try.prog 109 #[.int .i64 n] w fun e w' => e = .returned (.bool (inB n 0 2)) ∧ w = w' := by
  have cI := fun w => in_any n 0 2 w
  go_enter Try.func109, Try.ntmps109
  go_wp2_with (go_at_call 78; refine (cI _).mono ?_; rintro e w' ⟨rfl, rfl⟩)
  go_ret
  exact ⟨rfl, rfl⟩
theorem far_any (n : Int) (w : World) : Calls Try.prog 110 #[.int .i64 n] w fun e w' => e = .returned (.bool (inB n (-12) 12)) ∧ w = w' := by
  have cI := fun w => in_any n (-12) 12 w
  go_enter Try.func110, Try.ntmps110
  go_wp2_with (go_at_call 78; refine (cI _).mono ?_; rintro e w' ⟨rfl, rfl⟩)
  go_ret
  exact ⟨rfl, rfl⟩
set_option maxHeartbeats 2000000 in
theorem specRows_any (v : Value) (L : List (Int × Int)) (w : World) (hL : ltCg L) (h : SlAt eCg w w.heap.size v L) :
    Calls Try.prog 111 #[v] w fun e w' => e = .returned (.bool (okRows L)) ∧ Below w.heap.size w w' := by
  obtain ⟨A, c, rfl, h1, h2, hA⟩ := h
  unfold maxLen at h2
  go_enter Try.func111, Try.ntmps111
  go_wp2
  go_loopw [3] (fun i wr => ∃ k : Nat, k ≤ L.length ∧ i = .int .i64 k ∧ (∀ j, j < k → okRowP L j) ∧ Below w.heap.size w wr) (fun i _ => L.length - (intOf i).toNat)
  case atStart => exact ⟨0, by omega, rfl, by omega, Below.refl _ _⟩
  case round =>
    obtain ⟨k, hk, rfl, he, hb⟩ := hrel
    have HE := Lib.hid he
    clear he
    by_cases hlt : k < L.length
    · obtain ⟨b1, o1, rfl, hb1, r1⟩ := hA (by omega)
      have g1 := range_below (range_part r1 (cgAt_get hlt)) hb hb1
      rw [eCg_n] at g1
      have hb2 := cgAt_lt hL k
      have hb3 := cgAt_lt hL (k - 1)
      have hP : okRowP L k ↔ (inB (cgAt L k).1 0 11 = true ∧ inB (cgAt L k).2 1 4095 = true ∧ (k = 0 ∨ (cgAt L (k - 1)).1 < (cgAt L k).1)) := by
        unfold okRowP; rw [inB_iff, inB_iff]
      have HP := Lib.hid hP
      clear hP
      have c0 := cg_cell0 g1
      have c1 := cg_cell1 g1
      have w0 : IntKind.i64.wrap (cgAt L k).1 = (cgAt L k).1 := IntWalk.i64_in _ (by unfold ltCg1 at hb2; omega)
      have w1 : IntKind.i64.wrap (cgAt L k).2 = (cgAt L k).2 := IntWalk.i64_in _ (by unfold ltCg1 at hb2; omega)
      have cI1 := fun w => in_any (cgAt L k).1 0 11 w
      have cI2 := fun w => in_any (cgAt L k).2 1 4095 w
      cases hY : inB (cgAt L k).1 0 11 with
      | false =>
        have HF := Lib.hid (okRows_false hlt (fun e => by have := (HP.out.1 e).1; rw [hY] at this; cases this))
        rw [hY] at cI1
        clear hA r1 HP hb2 hb3 g1 cI2 hY
        generalize (cgAt L k).1 = y at *
        go_wp2_with (go_at_call 78; refine (cI1 _).mono ?_; rintro e w' ⟨rfl, rfl⟩)
        go_ret
        exact ⟨ret_bool HF.out.symm, hb⟩
      | true =>
        cases hB : inB (cgAt L k).2 1 4095 with
        | false =>
          have HF := Lib.hid (okRows_false hlt (fun e => by have := (HP.out.1 e).2.1; rw [hB] at this; cases this))
          rw [hY] at cI1
          rw [hB] at cI2
          clear hA r1 HP hb2 hb3 g1 hY hB
          generalize (cgAt L k).1 = y at *
          generalize (cgAt L k).2 = z at *
          go_wp2_with (go_at_call 78; first | (refine (cI1 _).mono ?_; rintro e w' ⟨rfl, rfl⟩; clear cI1) | (refine (cI2 _).mono ?_; rintro e w' ⟨rfl, rfl⟩; clear cI2))
          go_ret
          exact ⟨ret_bool HF.out.symm, hb⟩
        | true =>
          rw [hY] at cI1
          rw [hB] at cI2
          by_cases hk0 : k = 0
          · subst hk0
            have HQ := Lib.hid (HP.out.2 ⟨hY, hB, .inl rfl⟩)
            clear hA r1 HP hb2 hb3 g1 hY hB
            simp only [Nat.zero_mul, Nat.add_zero] at c0 c1
            generalize (cgAt L 0).1 = y at *
            generalize (cgAt L 0).2 = z at *
            go_wp2_with (go_at_call 78; first | (refine (cI1 _).mono ?_; rintro e w' ⟨rfl, rfl⟩; clear cI1) | (refine (cI2 _).mono ?_; rintro e w' ⟨rfl, rfl⟩; clear cI2))
            go_region
            go_wp2
            go_roundw
            case rel =>
              go_light
              refine ⟨1, by omega, by first | rfl | go_num, ?_, hb.drew⟩
              intro j hj
              obtain rfl : j = 0 := by omega
              exact HQ.out
            case measure => simp [intOf]; omega
          · have hlp : k - 1 < L.length := by omega
            have g2 := range_below (range_part r1 (cgAt_get hlp)) hb hb1
            rw [eCg_n] at g2
            have d0 := cell_q (cg_cell0 g2)
            have c2 := cell_q c0
            have kw : IntKind.i64.wrap ((k : Int) - 1) = ((k - 1 : Nat) : Int) := by rw [IntWalk.i64_in _ (by omega)]; omega
            have kp : (0 < k) = True := by simp; omega
            by_cases hlt2 : (cgAt L (k - 1)).1 < (cgAt L k).1
            · have HQ := Lib.hid (HP.out.2 ⟨hY, hB, .inr hlt2⟩)
              have q0 : ((cgAt L k).1 ≤ (cgAt L (k - 1)).1) = False := by simp; omega
              clear hA r1 HP hb2 hb3 g1 g2 hY hB hlt2
              generalize (cgAt L k).1 = y at *
              generalize (cgAt L k).2 = z at *
              generalize (cgAt L (k - 1)).1 = x at *
              generalize hkm : k - 1 = km at *
              have HKM := Lib.hid hkm
              clear hkm
              go_wp2_with (go_at_call 78; first | (refine (cI1 _).mono ?_; rintro e w' ⟨rfl, rfl⟩; clear cI1) | (refine (cI2 _).mono ?_; rintro e w' ⟨rfl, rfl⟩; clear cI2))
              refine wp_region_calm (by kernel_rfl) (by kernel_rfl) ?_
              repeat (quiet_step (fail))
              refine wpQuiet_nil ?_
              intro w5 hb5
              replace hb := grown_below hb hb5 hb.size
              clear c0 c1 c2 d0 hb5 kw kp q0
              go_wp2
              go_roundw
              case rel =>
                go_light
                refine ⟨k + 1, by omega, by go_num, ?_, hb⟩
                intro j hj
                rcases Nat.lt_succ_iff_lt_or_eq.1 hj with h | rfl
                · exact HE.out j h
                · exact HQ.out
              case measure => simp [intOf]; omega
            · have HF := Lib.hid (okRows_false hlt (fun e => by rcases (HP.out.1 e).2.2 with h | h <;> omega))
              have q0 : ((cgAt L k).1 ≤ (cgAt L (k - 1)).1) = True := by simp; omega
              clear hA r1 HP hb2 hb3 g1 g2 hY hB hlt2
              generalize (cgAt L k).1 = y at *
              generalize (cgAt L k).2 = z at *
              generalize (cgAt L (k - 1)).1 = x at *
              generalize hkm : k - 1 = km at *
              have HKM := Lib.hid hkm
              clear hkm
              go_wp2_with (go_at_call 78; first | (refine (cI1 _).mono ?_; rintro e w' ⟨rfl, rfl⟩; clear cI1) | (refine (cI2 _).mono ?_; rintro e w' ⟨rfl, rfl⟩; clear cI2))
              refine wp_region_calm (by kernel_rfl) (by kernel_rfl) ?_
              repeat (quiet_step (fail))
              refine wpQuiet_nil ?_
              intro w5 hb5
              replace hb := grown_below hb hb5 hb.size
              clear c0 c1 c2 d0 hb5 kw kp q0
              go_wp2
              go_ret
              exact ⟨ret_bool HF.out.symm, hb⟩
    · have hkl : k = L.length := by omega
      subst hkl
      clear hA
      go_wp2
      go_ret
      exact ⟨ret_bool (okRows_true HE.out).symm, hb⟩
end Go.Proofs.Ytjbjbdkmomkclab
