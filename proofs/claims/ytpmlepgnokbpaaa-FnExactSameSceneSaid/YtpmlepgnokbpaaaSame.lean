/- slices.Equal of scenes; SameScene: spec and impl. -/
import Derived.Test.YtpmlepgnokbpaaaLayM
namespace Go.Proofs.Ytpmlepgnokbpaaa
set_option maxRecDepth 100000
open Go.RowKit
set_option linter.unusedVariables false
set_option linter.unusedSimpArgs false
set_option maxHeartbeats 400000 in
theorem slEqualSc_any (u v : Value) (L M : List Ly) (w : World) (hu : SlAt eLy w w.heap.size u L) (hv : SlAt eLy w w.heap.size v M) :
    Calls Try.prog 62 #[u, v] w fun e w' => e = .returned (.bool (eqSc L M)) ∧ Below w.heap.size w w' := by
  obtain ⟨A, c, rfl, h1, h2, hA⟩ := hu
  obtain ⟨B, d, rfl, h3, h4, hB⟩ := hv
  unfold maxLen at h2 h4
  by_cases hl : L.length = M.length
  · have e1 : ((L.length : Int) != (M.length : Int)) = false := by simp [hl]
    have HL := Lib.hid hl
    clear hl
    go_enter Try.func62, Try.ntmps62
    go_wp2
    go_loopw [13] (fun i wr => ∃ k : Nat, k ≤ L.length ∧ i = .int .i64 k ∧ (∀ j, j < k → eqLy (lAt L j) (lAt M j) = true) ∧ Below w.heap.size w wr) (fun i _ => L.length - (intOf i).toNat)
    case atStart => exact ⟨0, by omega, rfl, by omega, Below.refl _ _⟩
    case round =>
      obtain ⟨k, hk, rfl, he, hb⟩ := hrel
      have HE := Lib.hid he
      clear he
      by_cases hlt : k < L.length
      · have hltM : k < M.length := by rw [← HL.out]; exact hlt
        obtain ⟨b1, o1, rfl, hb1, r1⟩ := hA (by omega)
        obtain ⟨b2, o2, rfl, hb2, r2⟩ := hB (by omega)
        have g1 := range_below (range_part r1 (lAt_get hlt)) hb hb1
        have g2 := range_below (range_part r2 (lAt_get hltM)) hb hb2
        have l1 : b1 < wr.heap.size := Nat.lt_of_lt_of_le hb1 hb.size
        have l2 : b2 < wr.heap.size := Nat.lt_of_lt_of_le hb2 hb.size
        rw [eLy_n] at g1 g2
        clear hA hB r1 r2
        have hq := fun w => run_neq_lay w (lAt L k) (lAt M k)
        generalize hE : eqLy (lAt L k) (lAt M k) = q at *
        go_wp2_with fail
        refine wp_region_calm (by kernel_rfl) (by kernel_rfl) ?_
        repeat (first | (refine wpQuiet_load_el (E := eLy) rfl 86 _ rfl _ _ rfl (lAt L k) (LC (lAt L k)) rfl (by with_reducible exact g1) l1 Try.underlying86 rfl (by kernel_rfl) ?_) | (refine wpQuiet_load_el (E := eLy) rfl 86 _ rfl _ _ rfl (lAt M k) (LC (lAt M k)) rfl (by with_reducible exact g2) l2 Try.underlying86 rfl (by kernel_rfl) ?_) | quiet_step (fail))
        refine wpQuiet_nil ?_
        intro w3 hb3
        replace hb := grown_below hb hb3 hb.size
        clear g1 g2 hb3
        have HQ := Lib.hid hE
        clear hE
        cases q with
        | true =>
          go_wp2
          go_roundw
          case rel =>
            go_light
            refine ⟨k + 1, by omega, by go_num, ?_, hb⟩
            intro j hj
            rcases Nat.lt_succ_iff_lt_or_eq.1 hj with h | rfl
            · exact HE.out j h
            · exact HQ.out
          case measure => simp [intOf]; omega
        | false =>
          go_wp2
          go_ret
          exact ⟨ret_bool (eqSc_false hlt HQ.out).symm, hb⟩
      · go_wp2
        go_ret
        have hkl : k = L.length := by omega
        subst hkl
        exact ⟨ret_bool ((eqSc_iff HL.out).2 HE.out).symm, hb⟩
  · have e1 : ((L.length : Int) != (M.length : Int)) = true := by simp; omega
    have HL := Lib.hid hl
    clear hl
    go_enter Try.func62, Try.ntmps62
    go_wp2
    go_ret
    exact ⟨ret_bool (eqSc_len HL.out).symm, Below.refl _ _⟩
theorem implSameScene_any (u v : Value) (L M : List Ly) (w : World) (hu : SlAt eLy w w.heap.size u L) (hv : SlAt eLy w w.heap.size v M) :
    Calls Try.prog 24 #[u, v] w fun e w' => e = .returned (.bool (eqSc L M)) ∧ Below w.heap.size w w' := by
  have cS := slEqualSc_any u v L M w hu hv
  obtain ⟨A, c, rfl, h1, h2, hA⟩ := hu
  obtain ⟨B, d, rfl, h3, h4, hB⟩ := hv
  clear hA hB
  go_enter Try.func24, Try.ntmps24
  go_wp2_with (go_at_call 62; refine cS.mono ?_; rintro e w' ⟨rfl, hb1⟩)
  go_ret
  exact ⟨rfl, hb1⟩
set_option maxHeartbeats 400000 in
theorem specSameScene_any (u v : Value) (L M : List Ly) (w : World) (hu : SlAt eLy w w.heap.size u L) (hv : SlAt eLy w w.heap.size v M) :
    Calls Try.prog 23 #[u, v] w fun e w' => e = .returned (.bool (eqSc L M)) ∧ Below w.heap.size w w' := by
  obtain ⟨A, c, rfl, h1, h2, hA⟩ := hu
  obtain ⟨B, d, rfl, h3, h4, hB⟩ := hv
  unfold maxLen at h2 h4
  by_cases hl : L.length = M.length
  · have e1 : ((L.length : Int) != (M.length : Int)) = false := by simp [hl]
    have HL := Lib.hid hl
    clear hl
    go_enter Try.func23, Try.ntmps23
    go_wp2
    go_loopw [5] (fun i wr => ∃ k : Nat, k ≤ L.length ∧ i = .int .i64 k ∧ (∀ j, j < k → eqLy (lAt L j) (lAt M j) = true) ∧ Below w.heap.size w wr) (fun i _ => L.length - (intOf i).toNat)
    case atStart => exact ⟨0, by omega, rfl, by omega, Below.refl _ _⟩
    case round =>
      obtain ⟨k, hk, rfl, he, hb⟩ := hrel
      have HE := Lib.hid he
      clear he
      by_cases hlt : k < L.length
      · have hltM : k < M.length := by rw [← HL.out]; exact hlt
        obtain ⟨b1, o1, rfl, hb1, r1⟩ := hA (by omega)
        obtain ⟨b2, o2, rfl, hb2, r2⟩ := hB (by omega)
        have g1 := range_below (range_part r1 (lAt_get hlt)) hb hb1
        have g2 := range_below (range_part r2 (lAt_get hltM)) hb hb2
        have l1 : b1 < wr.heap.size := Nat.lt_of_lt_of_le hb1 hb.size
        have l2 : b2 < wr.heap.size := Nat.lt_of_lt_of_le hb2 hb.size
        rw [eLy_n] at g1 g2
        clear hA hB r1 r2
        have hq := fun w => run_neq_lay w (lAt L k) (lAt M k)
        generalize hE : eqLy (lAt L k) (lAt M k) = q at *
        go_wp2_with fail
        refine wp_region_calm (by kernel_rfl) (by kernel_rfl) ?_
        repeat (first | (refine wpQuiet_load_el (E := eLy) rfl 86 _ rfl _ _ rfl (lAt L k) (LC (lAt L k)) rfl (by with_reducible exact g1) l1 Try.underlying86 rfl (by kernel_rfl) ?_) | (refine wpQuiet_load_el (E := eLy) rfl 86 _ rfl _ _ rfl (lAt M k) (LC (lAt M k)) rfl (by with_reducible exact g2) l2 Try.underlying86 rfl (by kernel_rfl) ?_) | quiet_step (fail))
        refine wpQuiet_nil ?_
        intro w3 hb3
        replace hb := grown_below hb hb3 hb.size
        clear g1 g2 hb3
        have HQ := Lib.hid hE
        clear hE
        cases q with
        | true =>
          go_wp2
          go_roundw
          case rel =>
            go_light
            refine ⟨k + 1, by omega, by go_num, ?_, hb⟩
            intro j hj
            rcases Nat.lt_succ_iff_lt_or_eq.1 hj with h | rfl
            · exact HE.out j h
            · exact HQ.out
          case measure => simp [intOf]; omega
        | false =>
          go_wp2
          go_ret
          exact ⟨ret_bool (eqSc_false hlt HQ.out).symm, hb⟩
      · go_wp2
        go_ret
        have hkl : k = L.length := by omega
        subst hkl
        exact ⟨ret_bool ((eqSc_iff HL.out).2 HE.out).symm, hb⟩
  · have e1 : ((L.length : Int) != (M.length : Int)) = true := by simp; omega
    have HL := Lib.hid hl
    clear hl
    go_enter Try.func23, Try.ntmps23
    go_wp2
    go_ret
    exact ⟨ret_bool (eqSc_len HL.out).symm, Below.refl _ _⟩
end Go.Proofs.Ytpmlepgnokbpaaa
