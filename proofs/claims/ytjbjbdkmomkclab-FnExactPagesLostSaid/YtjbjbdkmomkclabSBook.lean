/- spec: l01Ok, l01Differ at whatever address; l02Ok, ValidBook, l02Same, SameBook, l02Jumps, JumpsOf, l02Sum, AllJumps, LoopJumps. -/
import Derived.Test.YtjbjbdkmomkclabRows
import Derived.Test.YtjbjbdkmomkclabS1
import Derived.Test.YtjbjbdkmomkclabCount
import Derived.Test.YtjbjbdkmomkclabLBook
import Derived.Test.YtjbjbdkmomkclabLI64
import Derived.Test.YtjbjbdkmomkclabQuiet2
namespace Go.Proofs.Ytjbjbdkmomkclab
set_option maxRecDepth 100000
open Go.RowKit
set_option linter.unusedVariables false
set_option maxHeartbeats 400000 in
theorem okAt_any (b o : Nat) (f : Nat → Nat) (w : World) (hB : w.rangeAt b o (FC f).toList) :
    Calls Try.prog 84 #[.pointer (some ⟨b, o, none⟩)] w fun e w' => e = .returned (.bool (okF f)) ∧ w = w' := by
  go_enter Try.func84, Try.ntmps84
  go_wp2
  go_loop [3] (fun i => ∃ k : Nat, k ≤ 12 ∧ i = .int .i64 k ∧ (∀ j, j < k → f j ≤ 4095)) (fun i => 12 - (intOf i).toNat)
  case atStart => exact ⟨0, by omega, rfl, by omega⟩
  case round =>
    obtain ⟨k, hk, rfl, he⟩ := hrel
    have HE := Lib.hid he
    clear he
    by_cases hlt : k < 12
    · have c1 := fr_cell hB hlt
      by_cases hf : f k ≤ 4095
      · go_wp2
        go_round
        case rel =>
          go_light
          refine ⟨k + 1, by omega, by go_num, ?_⟩
          intro j hj
          rcases Nat.lt_succ_iff_lt_or_eq.1 hj with h | rfl
          · exact HE.out j h
          · exact hf
        case measure => simp [intOf]; omega
      · go_wp2
        go_ret
        exact ⟨ret_bool (okF_false.2 ⟨k, hlt, by omega⟩).symm, rfl⟩
    · go_wp2
      go_ret
      have h12 : k = 12 := by omega
      subst h12
      exact ⟨ret_bool (okF_iff.2 HE.out).symm, rfl⟩
set_option maxHeartbeats 400000 in
theorem specOk_any (v : Value) (L : List (Nat → Nat)) (w : World) (h : SlAt eFr w w.heap.size v L) :
    Calls Try.prog 45 #[v] w fun e w' => e = .returned (.bool (okB L)) ∧ w = w' := by
  obtain ⟨A, c, rfl, h1, h2, hA⟩ := h
  unfold maxLen at h2
  go_enter Try.func45, Try.ntmps45
  go_wp2
  go_loop [3] (fun i => ∃ k : Nat, k ≤ L.length ∧ i = .int .i64 k ∧ (∀ j, j < k → okF (fAt L j) = true)) (fun i => L.length - (intOf i).toNat)
  case atStart => exact ⟨0, by omega, rfl, by omega⟩
  case round =>
    obtain ⟨k, hk, rfl, he⟩ := hrel
    have HE := Lib.hid he
    clear he
    by_cases hlt : k < L.length
    · obtain ⟨b1, o1, rfl, hb1, r1⟩ := hA (by omega)
      have g1 := range_part r1 (fAt_get hlt)
      rw [eFr_n] at g1
      clear hA r1
      cases ho : okF (fAt L k) with
      | true =>
        have HO := Lib.hid ho
        have cO := okAt_any b1 (o1 + k * 12) (fAt L k) w g1
        rw [ho] at cO
        clear ho
        go_wp2_with (go_at_call 84; refine cO.mono ?_; rintro e w' ⟨rfl, rfl⟩)
        go_round
        case rel =>
          go_light
          refine ⟨k + 1, by omega, by go_num, ?_⟩
          intro j hj
          rcases Nat.lt_succ_iff_lt_or_eq.1 hj with h | rfl
          · exact HE.out j h
          · exact HO.out
        case measure => simp [intOf]; omega
      | false =>
        have HO := Lib.hid ho
        have cO := okAt_any b1 (o1 + k * 12) (fAt L k) w g1
        rw [ho] at cO
        clear ho
        go_wp2_with (go_at_call 84; refine cO.mono ?_; rintro e w' ⟨rfl, rfl⟩)
        go_ret
        exact ⟨ret_bool (okB_false_at hlt HO.out).symm, rfl⟩
    · have hkl : k = L.length := by omega
      subst hkl
      clear hA
      by_cases h40 : L.length ≤ 40
      · go_wp2
        go_ret
        exact ⟨ret_bool ((decide_eq_true (by omega)).trans (okB_iff.2 ⟨h40, HE.out⟩).symm), rfl⟩
      · go_wp2
        go_ret
        exact ⟨ret_bool ((decide_eq_false (by omega)).trans (okB_false_len (by omega)).symm), rfl⟩
set_option maxHeartbeats 400000 in
theorem specSame_any (u v : Value) (L M : List (Nat → Nat)) (w : World) (hu : SlAt eFr w w.heap.size u L) (hv : SlAt eFr w w.heap.size v M) :
    Calls Try.prog 47 #[u, v] w fun e w' => e = .returned (.bool (eqB L M)) ∧ Below w.heap.size w w' := by
  obtain ⟨i0, hi0⟩ : ∃ i, Try.prog.info? 57 = some i := ⟨_, rfl⟩
  obtain ⟨A, c, rfl, h1, h2, hA⟩ := hu
  obtain ⟨B, d, rfl, h3, h4, hB⟩ := hv
  unfold maxLen at h2 h4
  by_cases hl : L.length = M.length
  · have e1 : ((L.length : Int) != (M.length : Int)) = false := by simp [hl]
    have HL := Lib.hid hl
    clear hl
    go_enter Try.func47, Try.ntmps47
    go_wp2
    go_loopw [5] (fun i wr => ∃ k : Nat, k ≤ L.length ∧ i = .int .i64 k ∧ (∀ j, j < k → eqF (fAt L j) (fAt M j) = true) ∧ Below w.heap.size w wr) (fun i _ => L.length - (intOf i).toNat)
    case atStart => exact ⟨0, by omega, rfl, by omega, Below.refl _ _⟩
    case round =>
      obtain ⟨k, hk, rfl, he, hb⟩ := hrel
      have HE := Lib.hid he
      clear he
      by_cases hlt : k < L.length
      · have hltM : k < M.length := by rw [← HL.out]; exact hlt
        obtain ⟨b1, o1, rfl, hb1, r1⟩ := hA (by omega)
        obtain ⟨b2, o2, rfl, hb2, r2⟩ := hB (by omega)
        have g1 := range_below (range_part r1 (fAt_get hlt)) hb hb1
        have g2 := range_below (range_part r2 (fAt_get hltM)) hb hb2
        have l1 : b1 < wr.heap.size := Nat.lt_of_lt_of_le hb1 hb.size
        have l2 : b2 < wr.heap.size := Nat.lt_of_lt_of_le hb2 hb.size
        rw [eFr_n] at g1 g2
        clear hA hB r1 r2
        have hq := fun w => run_neq_fr (P := Try.prog) w (fAt L k) (fAt M k) Try.underlying65 (by kernel_rfl) Try.underlying57 hi0 (by kernel_rfl)
        clear hi0
        generalize hE : eqF (fAt L k) (fAt M k) = q at *
        go_wp2_with fail
        refine wp_region_calm (by kernel_rfl) (by kernel_rfl) ?_
        repeat (first | (refine wpQuiet_load_at rfl 65 57 _ rfl _ _ rfl (by first | exact g1 | exact g2) (by first | exact l1 | exact l2) Try.underlying65 (by kernel_rfl) ?_) | quiet_step (fail))
        refine wpQuiet_nil ?_
        intro w3 hb3
        replace hb := grown_below hb hb3 hb.size
        clear g1 g2 hb3
        have HQ := Lib.hid hE
        clear hE
        cases q with
        | true =>
          go_wp2
          go_roundw
          case rel =>
            go_light
            refine ⟨k + 1, by omega, by go_num, ?_, hb⟩
            intro j hj
            rcases Nat.lt_succ_iff_lt_or_eq.1 hj with h | rfl
            · exact HE.out j h
            · exact HQ.out
          case measure => simp [intOf]; omega
        | false =>
          go_wp2
          go_ret
          exact ⟨ret_bool (eqB_false hlt HQ.out).symm, hb⟩
      · go_wp2
        go_ret
        have hkl : k = L.length := by omega
        subst hkl
        exact ⟨ret_bool ((eqB_iff HL.out).2 HE.out).symm, hb⟩
  · have e1 : ((L.length : Int) != (M.length : Int)) = true := by simp; omega
    have HL := Lib.hid hl
    clear hl
    go_enter Try.func47, Try.ntmps47
    go_wp2
    go_ret
    exact ⟨ret_bool (eqB_len HL.out).symm, Below.refl _ _⟩
theorem unlikeF_ok' {f g : Nat → Nat} (hf : okF f = true) (hg : okF g = true) : okF (unlikeF f g) = true := okF_iff.2 fun y hy => by
  have h1 := okF_iff.1 hf y hy
  have h2 := okF_iff.1 hg y hy
  have : unlikeF f g y < 2 ^ 12 := Nat.xor_lt_two_pow (by omega) (by omega)
  omega
theorem infoI64 : (Try.prog.info? 2).map (fun i => (i.zero, i.size, i.bytes)) = some (some (.int .i64 0), (eI .i64).n, 8) := by kernel_rfl
end Go.Proofs.Ytjbjbdkmomkclab
