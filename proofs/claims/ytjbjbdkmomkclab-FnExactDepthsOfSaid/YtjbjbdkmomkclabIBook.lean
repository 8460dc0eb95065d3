/- impl: ValidBook, slices.Equal, SameBook, listBy, Book.jump, sumOf, JumpsOf, AllJumps, LoopJumps. -/
import Derived.Test.YtjbjbdkmomkclabRows
import Derived.Test.YtjbjbdkmomkclabSBook
import Derived.Test.YtjbjbdkmomkclabSJumps
import Derived.Test.YtjbjbdkmomkclabIValid
import Derived.Test.YtjbjbdkmomkclabIUnlike
namespace Go.Proofs.Ytjbjbdkmomkclab
set_option maxRecDepth 100000
open Go.RowKit
set_option linter.unusedVariables false
set_option linter.unusedSimpArgs false
set_option maxHeartbeats 400000 in
theorem implValidBook_any (v : Value) (L : List (Nat → Nat)) (w : World) (hL : ltL L) (h : SlAt eFr w w.heap.size v L) :
    Calls Try.prog 57 #[v] w fun e w' => e = .returned (.bool (okB L)) ∧ Below w.heap.size w w' := by
  obtain ⟨A, c, rfl, h1, h2, hA⟩ := h
  unfold maxLen at h2
  by_cases h40 : L.length ≤ 40
  · go_enter Try.func57, Try.ntmps57
    go_wp2
    go_loopw [10] (fun i wr => ∃ k : Nat, k ≤ L.length ∧ i = .int .i64 k ∧ (∀ j, j < k → okF (fAt L j) = true) ∧ Below w.heap.size w wr) (fun i _ => L.length - (intOf i).toNat)
    case atStart => exact ⟨0, by omega, rfl, by omega, Below.refl _ _⟩
    case round =>
      obtain ⟨k, hk, rfl, he, hb⟩ := hrel
      have HE := Lib.hid he
      clear he
      by_cases hlt : k < L.length
      · obtain ⟨b1, o1, rfl, hb1, r1⟩ := hA (by omega)
        have g1 := range_below (range_part r1 (fAt_get hlt)) hb hb1
        rw [eFr_n] at g1
        have cV := fun w => valid_any (fAt L k) (fAt_lt hL k) w
        clear hA r1
        cases ho : okF (fAt L k) with
        | true =>
          have HO := Lib.hid ho
          rw [ho] at cV
          clear ho
          go_wp2_with (first | (refine wpList_load_at rfl 65 57 _ rfl _ _ rfl g1 Try.underlying65 (by kernel_rfl) ?_) | (refine wpList_store_new (f0 := zeroF) (f := fAt L k) rfl 65 _ _ rfl rfl rfl (by kernel_rfl) ?_; have bn := Blk.new wr 65 (fAt L k); replace hb := hb.alloc hb.size (.cells (FC (fAt L k)) 65); clear g1; generalize wr.alloc (.cells (FC (fAt L k)) 65) = w2 at *) | (refine wpList_load_fr rfl 65 57 _ rfl _ rfl bn Try.underlying65 (by kernel_rfl) ?_) | (go_at_call 95; refine (cV _).mono ?_; rintro e w3 ⟨rfl, hb3⟩; replace hb := grown_below hb hb3 hb.size; clear hb3 bn))
          go_roundw
          case rel =>
            go_light
            refine ⟨k + 1, by omega, by go_num, ?_, hb⟩
            intro j hj
            rcases Nat.lt_succ_iff_lt_or_eq.1 hj with h | rfl
            · exact HE.out j h
            · exact HO.out
          case measure => simp [intOf]; omega
        | false =>
          have HO := Lib.hid ho
          rw [ho] at cV
          clear ho
          go_wp2_with (first | (refine wpList_load_at rfl 65 57 _ rfl _ _ rfl g1 Try.underlying65 (by kernel_rfl) ?_) | (refine wpList_store_new (f0 := zeroF) (f := fAt L k) rfl 65 _ _ rfl rfl rfl (by kernel_rfl) ?_; have bn := Blk.new wr 65 (fAt L k); replace hb := hb.alloc hb.size (.cells (FC (fAt L k)) 65); clear g1; generalize wr.alloc (.cells (FC (fAt L k)) 65) = w2 at *) | (refine wpList_load_fr rfl 65 57 _ rfl _ rfl bn Try.underlying65 (by kernel_rfl) ?_) | (go_at_call 95; refine (cV _).mono ?_; rintro e w3 ⟨rfl, hb3⟩; replace hb := grown_below hb hb3 hb.size; clear hb3 bn))
          go_ret
          exact ⟨ret_bool (okB_false_at hlt HO.out).symm, hb⟩
      · have hkl : k = L.length := by omega
        subst hkl
        clear hA
        go_wp2
        go_ret
        exact ⟨ret_bool (okB_iff.2 ⟨h40, HE.out⟩).symm, hb⟩
  · have h41 : 40 < L.length := by omega
    have hv := okB_false_len h41
    rw [hv]
    clear hA hv
    go_enter Try.func57, Try.ntmps57
    go_wp2
    go_ret
    exact ⟨rfl, Below.refl _ _⟩
set_option maxHeartbeats 400000 in
theorem listBy_i64 (n : Int) (fid : FuncId) (v : Value) (F : Nat → Int) (w : World) (hn1 : -1 ≤ n) (hn2 : n ≤ 1000000)
    (hcall : ∀ x w, (callFunc fid #[v, .int .i64 x]).run Try.prog w = .ok (.enter fid #[v, .int .i64 x]) w)
    (hbody : ∀ i : Nat, (i : Int) < n → ∀ w1, Below w.heap.size w w1 → Calls Try.prog fid #[v, .int .i64 i] w1 fun e w2 => e = .returned (.int .i64 (F i)) ∧ Below w1.heap.size w1 w2) :
    Calls Try.prog 59 #[.int .i64 n, .func (.func fid) #[v] #[]] w (GivesV (eI .i64) 2 (tab F n.toNat) w) := by
  have hown := OwnL.nil_ (E := (eI .i64)) w w.heap.size 2
  have HB := Lib.hid hbody
  clear hbody
  go_enter Try.func59, Try.ntmps59
  go_wp2
  go_loopw [5, 8] (fun u i wr => ∃ k : Nat, k ≤ n.toNat ∧ i = .int .i64 k ∧ OwnL (eI .i64) wr w.heap.size 2 u (tab F k) ∧ Below w.heap.size w wr) (fun _ i _ => n.toNat - (intOf i).toNat)
  case atStart => exact ⟨0, by omega, rfl, hown, Below.refl _ _⟩
  case round =>
    clear hown
    obtain ⟨k, hk, rfl, hown, hb⟩ := hrel
    by_cases hlt : (k : Int) < n
    · go_wp2_with fail
      refine (HB.out k hlt wr hb).mono ?_
      rintro e w3 ⟨rfl, hb3⟩
      replace hb := grown_below hb hb3 hb.size
      replace hown := hown.below hb3
      clear hb3
      go_wp2_with (at_builtin; refine wpList_append_one rfl _ _ 38 rfl w.heap.size 2 Try.underlying38 infoI64 rfl (by decide) (by omega) (hown.alloc _) rfl (F k) rfl (range_new _ _ _) (by rw [tab_length]; omega) (by have := hb.size; simp; omega) ?_; intro v' w4 hown' hgrow)
      go_roundw
      case rel =>
        go_light
        refine ⟨k + 1, by omega, by go_num, ?_, (hown.alloc _).grown_below (hb.alloc hb.size _) hgrow (Nat.le_refl _) (by have := hb.size; simp; omega)⟩
        rw [tab_succ]; exact hown'
      case measure => simp [intOf]; omega
    · have hkn : k = n.toNat := by omega
      subst hkn
      go_wp2
      go_ret
      exact ⟨_, rfl, hown, hb⟩
end Go.Proofs.Ytjbjbdkmomkclab
