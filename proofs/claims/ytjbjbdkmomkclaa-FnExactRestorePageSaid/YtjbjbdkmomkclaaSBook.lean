/- spec: l01Ok, l01Differ at whatever address; l02Ok, ValidBook, l02Same, SameBook, l02Jumps, JumpsOf, l02Sum, AllJumps, LoopJumps. -/
import Derived.Test.YtjbjbdkmomkclaaRows
import Derived.Test.YtjbjbdkmomkclaaS1
import Derived.Test.YtjbjbdkmomkclaaCount
import Derived.Test.YtjbjbdkmomkclaaLBook
import Derived.Test.YtjbjbdkmomkclaaLI64
import Derived.Test.YtjbjbdkmomkclaaQuiet2
namespace Go.Proofs.Ytjbjbdkmomkclaa
set_option maxRecDepth 100000
open Go.RowKit
set_option linter.unusedVariables false
set_option maxHeartbeats 400000 in
theorem okAt_any (b o : Nat) (f : Nat → Nat) (w : World) (hB : w.rangeAt b o (FC f).toList) :
    Calls Try.prog 61 #[.pointer (some ⟨b, o, none⟩)] w fun e w' => e = .returned (.bool (okF f)) ∧ w = w' := by
  go_enter Try.func61, Try.ntmps61
  go_wp2
  go_loop [3] (fun i => ∃ k : Nat, k ≤ 12 ∧ i = .int .i64 k ∧ (∀ j, j < k → f j ≤ 4095)) (fun i => 12 - (intOf i).toNat)
  case atStart => exact ⟨0, by omega, rfl, by omega⟩
  case round =>
    obtain ⟨k, hk, rfl, he⟩ := hrel
    have HE := Lib.hid he
    clear he
    by_cases hlt : k < 12
    · have c1 := fr_cell hB hlt
      by_cases hf : f k ≤ 4095
      · go_wp2
        go_round
        case rel =>
          go_light
          refine ⟨k + 1, by omega, by go_num, ?_⟩
          intro j hj
          rcases Nat.lt_succ_iff_lt_or_eq.1 hj with h | rfl
          · exact HE.out j h
          · exact hf
        case measure => simp [intOf]; omega
      · go_wp2
        go_ret
        exact ⟨ret_bool (okF_false.2 ⟨k, hlt, by omega⟩).symm, rfl⟩
    · go_wp2
      go_ret
      have h12 : k = 12 := by omega
      subst h12
      exact ⟨ret_bool (okF_iff.2 HE.out).symm, rfl⟩
set_option maxHeartbeats 400000 in
theorem specOk_any (v : Value) (L : List (Nat → Nat)) (w : World) (h : SlAt eFr w w.heap.size v L) :
    Calls Try.prog 57 #[v] w fun e w' => e = .returned (.bool (okB L)) ∧ w = w' := by
  obtain ⟨A, c, rfl, h1, h2, hA⟩ := h
  unfold maxLen at h2
  go_enter Try.func57, Try.ntmps57
  go_wp2
  go_loop [3] (fun i => ∃ k : Nat, k ≤ L.length ∧ i = .int .i64 k ∧ (∀ j, j < k → okF (fAt L j) = true)) (fun i => L.length - (intOf i).toNat)
  case atStart => exact ⟨0, by omega, rfl, by omega⟩
  case round =>
    obtain ⟨k, hk, rfl, he⟩ := hrel
    have HE := Lib.hid he
    clear he
    by_cases hlt : k < L.length
    · obtain ⟨b1, o1, rfl, hb1, r1⟩ := hA (by omega)
      have g1 := range_part r1 (fAt_get hlt)
      rw [eFr_n] at g1
      clear hA r1
      cases ho : okF (fAt L k) with
      | true =>
        have HO := Lib.hid ho
        have cO := okAt_any b1 (o1 + k * 12) (fAt L k) w g1
        rw [ho] at cO
        clear ho
        go_wp2_with (go_at_call 61; refine cO.mono ?_; rintro e w' ⟨rfl, rfl⟩)
        go_round
        case rel =>
          go_light
          refine ⟨k + 1, by omega, by go_num, ?_⟩
          intro j hj
          rcases Nat.lt_succ_iff_lt_or_eq.1 hj with h | rfl
          · exact HE.out j h
          · exact HO.out
        case measure => simp [intOf]; omega
      | false =>
        have HO := Lib.hid ho
        have cO := okAt_any b1 (o1 + k * 12) (fAt L k) w g1
        rw [ho] at cO
        clear ho
        go_wp2_with (go_at_call 61; refine cO.mono ?_; rintro e w' ⟨rfl, rfl⟩)
        go_ret
        exact ⟨ret_bool (okB_false_at hlt HO.out).symm, rfl⟩
    · have hkl : k = L.length := by omega
      subst hkl
      clear hA
      by_cases h40 : L.length ≤ 40
      · go_wp2
        go_ret
        exact ⟨ret_bool ((decide_eq_true (by omega)).trans (okB_iff.2 ⟨h40, HE.out⟩).symm), rfl⟩
      · go_wp2
        go_ret
        exact ⟨ret_bool ((decide_eq_false (by omega)).trans (okB_false_len (by omega)).symm), rfl⟩
theorem unlikeF_ok' {f g : Nat → Nat} (hf : okF f = true) (hg : okF g = true) : okF (unlikeF f g) = true := okF_iff.2 fun y hy => by
  have h1 := okF_iff.1 hf y hy
  have h2 := okF_iff.1 hg y hy
  have : unlikeF f g y < 2 ^ 12 := Nat.xor_lt_two_pow (by omega) (by omega)
  omega
theorem infoI64 : (Try.prog.info? 2).map (fun i => (i.zero, i.size, i.bytes)) = some (some (.int .i64 0), (eI .i64).n, 8) := by kernel_rfl
end Go.Proofs.Ytjbjbdkmomkclaa
