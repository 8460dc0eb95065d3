/- impl: ValidBook, slices.Equal, SameBook, listBy, Book.jump, sumOf, JumpsOf, AllJumps, LoopJumps. -/
import Derived.Test.YtjbjbdkmomkclaaRows
import Derived.Test.YtjbjbdkmomkclaaSBook
import Derived.Test.YtjbjbdkmomkclaaSJumps
import Derived.Test.YtjbjbdkmomkclaaIValid
import Derived.Test.YtjbjbdkmomkclaaIUnlike
namespace Go.Proofs.Ytjbjbdkmomkclaa
set_option maxRecDepth 100000
open Go.RowKit
set_option linter.unusedVariables false
set_option linter.unusedSimpArgs false
set_option maxHeartbeats 400000 in
theorem implValidBook_any (v : Value) (L : List (Nat → Nat)) (w : World) (hL : ltL L) (h : SlAt eFr w w.heap.size v L) :
    Calls Try.prog 59 #[v] w fun e w' => e = .returned (.bool (okB L)) ∧ Below w.heap.size w w' := by
  obtain ⟨A, c, rfl, h1, h2, hA⟩ := h
  unfold maxLen at h2
  by_cases h40 : L.length ≤ 40
  · go_enter Try.func59, Try.ntmps59
    go_wp2
    go_loopw [10] (fun i wr => ∃ k : Nat, k ≤ L.length ∧ i = .int .i64 k ∧ (∀ j, j < k → okF (fAt L j) = true) ∧ Below w.heap.size w wr) (fun i _ => L.length - (intOf i).toNat)
    case atStart => exact ⟨0, by omega, rfl, by omega, Below.refl _ _⟩
    case round =>
      obtain ⟨k, hk, rfl, he, hb⟩ := hrel
      have HE := Lib.hid he
      clear he
      by_cases hlt : k < L.length
      · obtain ⟨b1, o1, rfl, hb1, r1⟩ := hA (by omega)
        have g1 := range_below (range_part r1 (fAt_get hlt)) hb hb1
        rw [eFr_n] at g1
        have cV := fun w => valid_any (fAt L k) (fAt_lt hL k) w
        clear hA r1
        cases ho : okF (fAt L k) with
        | true =>
          have HO := Lib.hid ho
          rw [ho] at cV
          clear ho
          go_wp2_with (first | (refine wpList_load_at rfl 41 39 _ rfl _ _ rfl g1 Try.underlying41 (by kernel_rfl) ?_) | (refine wpList_store_new (f0 := zeroF) (f := fAt L k) rfl 41 _ _ rfl rfl rfl (by kernel_rfl) ?_; have bn := Blk.new wr 41 (fAt L k); replace hb := hb.alloc hb.size (.cells (FC (fAt L k)) 41); clear g1; generalize wr.alloc (.cells (FC (fAt L k)) 41) = w2 at *) | (refine wpList_load_fr rfl 41 39 _ rfl _ rfl bn Try.underlying41 (by kernel_rfl) ?_) | (go_at_call 63; refine (cV _).mono ?_; rintro e w3 ⟨rfl, hb3⟩; replace hb := grown_below hb hb3 hb.size; clear hb3 bn))
          go_roundw
          case rel =>
            go_light
            refine ⟨k + 1, by omega, by go_num, ?_, hb⟩
            intro j hj
            rcases Nat.lt_succ_iff_lt_or_eq.1 hj with h | rfl
            · exact HE.out j h
            · exact HO.out
          case measure => simp [intOf]; omega
        | false =>
          have HO := Lib.hid ho
          rw [ho] at cV
          clear ho
          go_wp2_with (first | (refine wpList_load_at rfl 41 39 _ rfl _ _ rfl g1 Try.underlying41 (by kernel_rfl) ?_) | (refine wpList_store_new (f0 := zeroF) (f := fAt L k) rfl 41 _ _ rfl rfl rfl (by kernel_rfl) ?_; have bn := Blk.new wr 41 (fAt L k); replace hb := hb.alloc hb.size (.cells (FC (fAt L k)) 41); clear g1; generalize wr.alloc (.cells (FC (fAt L k)) 41) = w2 at *) | (refine wpList_load_fr rfl 41 39 _ rfl _ rfl bn Try.underlying41 (by kernel_rfl) ?_) | (go_at_call 63; refine (cV _).mono ?_; rintro e w3 ⟨rfl, hb3⟩; replace hb := grown_below hb hb3 hb.size; clear hb3 bn))
          go_ret
          exact ⟨ret_bool (okB_false_at hlt HO.out).symm, hb⟩
      · have hkl : k = L.length := by omega
        subst hkl
        clear hA
        go_wp2
        go_ret
        exact ⟨ret_bool (okB_iff.2 ⟨h40, HE.out⟩).symm, hb⟩
  · have h41 : 40 < L.length := by omega
    have hv := okB_false_len h41
    rw [hv]
    clear hA hv
    go_enter Try.func59, Try.ntmps59
    go_wp2
    go_ret
    exact ⟨rfl, Below.refl _ _⟩
end Go.Proofs.Ytjbjbdkmomkclaa
