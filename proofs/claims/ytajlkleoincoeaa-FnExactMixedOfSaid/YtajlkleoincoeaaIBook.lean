/- impl: ValidBook, slices.Equal, SameBook, listBy, Book.jump, sumOf, JumpsOf, AllJumps, LoopJumps. -/
import Derived.Test.YtajlkleoincoeaaRows
import Derived.Test.YtajlkleoincoeaaSBook
import Derived.Test.YtajlkleoincoeaaSJumps
import Derived.Test.YtajlkleoincoeaaIValid
import Derived.Test.YtajlkleoincoeaaIUnlike
namespace Go.Proofs.Ytajlkleoincoeaa
set_option maxRecDepth 100000
open Go.RowKit
set_option linter.unusedVariables false
set_option linter.unusedSimpArgs false
set_option maxHeartbeats 400000 in
theorem implValidBook_any (v : Value) (L : List (Nat → Nat)) (w : World) (hL : ltL L) (h : SlAt eFr w w.heap.size v L) :
    Calls Try.prog 78 #[v] w fun e w' => e = .returned (.bool (okB L)) ∧ Below w.heap.size w w' := by
  obtain ⟨A, c, rfl, h1, h2, hA⟩ := h
  unfold maxLen at h2
  by_cases h40 : L.length ≤ 40
  · go_enter Try.func78, Try.ntmps78
    go_wp2
    go_loopw [10] (fun i wr => ∃ k : Nat, k ≤ L.length ∧ i = .int .i64 k ∧ (∀ j, j < k → okF (fAt L j) = true) ∧ Below w.heap.size w wr) (fun i _ => L.length - (intOf i).toNat)
    case atStart => exact ⟨0, by omega, rfl, by omega, Below.refl _ _⟩
    case round =>
      obtain ⟨k, hk, rfl, he, hb⟩ := hrel
      have HE := Lib.hid he
      clear he
      by_cases hlt : k < L.length
      · obtain ⟨b1, o1, rfl, hb1, r1⟩ := hA (by omega)
        have g1 := range_below (range_part r1 (fAt_get hlt)) hb hb1
        rw [eFr_n] at g1
        have cV := fun w => valid_any (fAt L k) (fAt_lt hL k) w
        clear hA r1
        cases ho : okF (fAt L k) with
        | true =>
          have HO := Lib.hid ho
          rw [ho] at cV
          clear ho
          go_wp2_with (first | (refine wpList_load_at rfl 30 22 _ rfl _ _ rfl g1 Try.underlying30 (by kernel_rfl) ?_) | (refine wpList_store_new (f0 := zeroF) (f := fAt L k) rfl 30 _ _ rfl rfl rfl (by kernel_rfl) ?_; have bn := Blk.new wr 30 (fAt L k); replace hb := hb.alloc hb.size (.cells (FC (fAt L k)) 30); clear g1; generalize wr.alloc (.cells (FC (fAt L k)) 30) = w2 at *) | (refine wpList_load_fr rfl 30 22 _ rfl _ rfl bn Try.underlying30 (by kernel_rfl) ?_) | (go_at_call 69; refine (cV _).mono ?_; rintro e w3 ⟨rfl, hb3⟩; replace hb := grown_below hb hb3 hb.size; clear hb3 bn))
          go_roundw
          case rel =>
            go_light
            refine ⟨k + 1, by omega, by go_num, ?_, hb⟩
            intro j hj
            rcases Nat.lt_succ_iff_lt_or_eq.1 hj with h | rfl
            · exact HE.out j h
            · exact HO.out
          case measure => simp [intOf]; omega
        | false =>
          have HO := Lib.hid ho
          rw [ho] at cV
          clear ho
          go_wp2_with (first | (refine wpList_load_at rfl 30 22 _ rfl _ _ rfl g1 Try.underlying30 (by kernel_rfl) ?_) | (refine wpList_store_new (f0 := zeroF) (f := fAt L k) rfl 30 _ _ rfl rfl rfl (by kernel_rfl) ?_; have bn := Blk.new wr 30 (fAt L k); replace hb := hb.alloc hb.size (.cells (FC (fAt L k)) 30); clear g1; generalize wr.alloc (.cells (FC (fAt L k)) 30) = w2 at *) | (refine wpList_load_fr rfl 30 22 _ rfl _ rfl bn Try.underlying30 (by kernel_rfl) ?_) | (go_at_call 69; refine (cV _).mono ?_; rintro e w3 ⟨rfl, hb3⟩; replace hb := grown_below hb hb3 hb.size; clear hb3 bn))
          go_ret
          exact ⟨ret_bool (okB_false_at hlt HO.out).symm, hb⟩
      · have hkl : k = L.length := by omega
        subst hkl
        clear hA
        go_wp2
        go_ret
        exact ⟨ret_bool (okB_iff.2 ⟨h40, HE.out⟩).symm, hb⟩
  · have h41 : 40 < L.length := by omega
    have hv := okB_false_len h41
    rw [hv]
    clear hA hv
    go_enter Try.func78, Try.ntmps78
    go_wp2
    go_ret
    exact ⟨rfl, Below.refl _ _⟩
set_option maxHeartbeats 400000 in
theorem listBy_i64 (n : Int) (fid : FuncId) (v : Value) (F : Nat → Int) (w : World) (hn1 : -1 ≤ n) (hn2 : n ≤ 1000000)
    (hcall : ∀ x w, (callFunc fid #[v, .int .i64 x]).run Try.prog w = .ok (.enter fid #[v, .int .i64 x]) w)
    (hbody : ∀ i : Nat, (i : Int) < n → ∀ w1, Below w.heap.size w w1 → Calls Try.prog fid #[v, .int .i64 i] w1 fun e w2 => e = .returned (.int .i64 (F i)) ∧ Below w1.heap.size w1 w2) :
    Calls Try.prog 151 #[.int .i64 n, .func (.func fid) #[v] #[]] w (GivesV (eI .i64) 2 (tab F n.toNat) w) := by
  have hown := OwnL.nil_ (E := (eI .i64)) w w.heap.size 2
  have HB := Lib.hid hbody
  clear hbody
  go_enter Try.func151, Try.ntmps151
  go_wp2
  go_loopw [5, 8] (fun u i wr => ∃ k : Nat, k ≤ n.toNat ∧ i = .int .i64 k ∧ OwnL (eI .i64) wr w.heap.size 2 u (tab F k) ∧ Below w.heap.size w wr) (fun _ i _ => n.toNat - (intOf i).toNat)
  case atStart => exact ⟨0, by omega, rfl, hown, Below.refl _ _⟩
  case round =>
    clear hown
    obtain ⟨k, hk, rfl, hown, hb⟩ := hrel
    by_cases hlt : (k : Int) < n
    · go_wp2_with fail
      refine (HB.out k hlt wr hb).mono ?_
      rintro e w3 ⟨rfl, hb3⟩
      replace hb := grown_below hb hb3 hb.size
      replace hown := hown.below hb3
      clear hb3
      go_wp2_with (at_builtin; refine wpList_append_one rfl _ _ 39 rfl w.heap.size 2 Try.underlying39 infoI64 rfl (by decide) (by omega) (hown.alloc _) rfl (F k) rfl (range_new _ _ _) (by rw [tab_length]; omega) (by have := hb.size; simp; omega) ?_; intro v' w4 hown' hgrow)
      go_roundw
      case rel =>
        go_light
        refine ⟨k + 1, by omega, by go_num, ?_, (hown.alloc _).grown_below (hb.alloc hb.size _) hgrow (Nat.le_refl _) (by have := hb.size; simp; omega)⟩
        rw [tab_succ]; exact hown'
      case measure => simp [intOf]; omega
    · have hkn : k = n.toNat := by omega
      subst hkn
      go_wp2
      go_ret
      exact ⟨_, rfl, hown, hb⟩
set_option maxHeartbeats 1000000 in
theorem jump_any (v : Value) (L : List (Nat → Nat)) (i : Nat) (w : World) (hL : ltL L) (hlen : L.length ≤ 40) (hi : i < L.length) (h : SlAt eFr w w.heap.size v L) :
    Calls Try.prog 172 #[v, .int .i64 i] w fun e w' => e = .returned (.int .i64 (jmp L i)) ∧ Below w.heap.size w w' := by
  obtain ⟨A, c, rfl, h1, h2, hA⟩ := h
  obtain ⟨b1, o1, rfl, hb1, r1⟩ := hA (by omega)
  unfold maxLen at h2
  have hm : (i + 1) % L.length < L.length := Nat.mod_lt _ (by omega)
  have g1 := range_part r1 (fAt_get hi)
  have g2 := range_part r1 (fAt_get hm)
  rw [eFr_n] at g1 g2
  have hmod : (((i : Int) + 1) % (L.length : Int)) = (((i + 1) % L.length : Nat) : Int) := by rw [Int.natCast_emod]; rfl
  have cU := fun w => unlike_any (fAt L i) (fAt L ((i + 1) % L.length)) (fAt_lt hL _) (fAt_lt hL _) w
  have cC := fun w => count_any (unlikeF (fAt L i) (fAt L ((i + 1) % L.length))) (unlikeF_lt (fAt_lt hL _) (fAt_lt hL _)) w
  have hv : ((popSum (unlikeF (fAt L i) (fAt L ((i + 1) % L.length))) 12 : Nat) : Int) = jmp L i := rfl
  have HV := Lib.hid hv
  clear hA r1 hv
  generalize hq : (i + 1) % L.length = q at *
  have HM := Lib.hid hmod
  clear hq hmod
  go_enter Try.func172, Try.ntmps172
  go_wp2_with fail
  rw [HM.out]
  refine wp_region_tail 10 (by kernel_rfl) (by kernel_rfl) ?_
  simp only [List.take_succ_cons, List.take_zero, List.drop_succ_cons, List.drop_zero]
  repeat (first | (refine wpQuiet_load_at rfl 30 22 _ rfl _ _ rfl (by first | exact g1 | exact g2) hb1 Try.underlying30 (by kernel_rfl) ?_) | quiet_step (first | exact Calls.regrown_of (cU _) | exact Calls.regrown_of (cC _)))
  refine wpQuiet_nil ?_
  intro w3 hb3
  go_wp2
  go_ret
  exact ⟨ret_int HV.out, hb3⟩
end Go.Proofs.Ytajlkleoincoeaa
