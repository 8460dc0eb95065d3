/- spec: l01Ok, l01Differ at whatever address; l02Ok, ValidBook, l02Same, SameBook, l02Jumps, JumpsOf, l02Sum, AllJumps, LoopJumps. -/
import Derived.Test.YtajlkleoincoeaaRows
import Derived.Test.YtajlkleoincoeaaS1
import Derived.Test.YtajlkleoincoeaaCount
import Derived.Test.YtajlkleoincoeaaLBook
import Derived.Test.YtajlkleoincoeaaLI64
import Derived.Test.YtajlkleoincoeaaQuiet2
namespace Go.Proofs.Ytajlkleoincoeaa
set_option maxRecDepth 100000
open Go.RowKit
set_option linter.unusedVariables false
set_option maxHeartbeats 400000 in
theorem okAt_any (b o : Nat) (f : Nat → Nat) (w : World) (hB : w.rangeAt b o (FC f).toList) :
    Calls Try.prog 137 #[.pointer (some ⟨b, o, none⟩)] w fun e w' => e = .returned (.bool (okF f)) ∧ w = w' := by
  go_enter Try.func137, Try.ntmps137
  go_wp2
  go_loop [3] (fun i => ∃ k : Nat, k ≤ 12 ∧ i = .int .i64 k ∧ (∀ j, j < k → f j ≤ 4095)) (fun i => 12 - (intOf i).toNat)
  case atStart => exact ⟨0, by omega, rfl, by omega⟩
  case round =>
    obtain ⟨k, hk, rfl, he⟩ := hrel
    have HE := Lib.hid he
    clear he
    by_cases hlt : k < 12
    · have c1 := fr_cell hB hlt
      by_cases hf : f k ≤ 4095
      · go_wp2
        go_round
        case rel =>
          go_light
          refine ⟨k + 1, by omega, by go_num, ?_⟩
          intro j hj
          rcases Nat.lt_succ_iff_lt_or_eq.1 hj with h | rfl
          · exact HE.out j h
          · exact hf
        case measure => simp [intOf]; omega
      · go_wp2
        go_ret
        exact ⟨ret_bool (okF_false.2 ⟨k, hlt, by omega⟩).symm, rfl⟩
    · go_wp2
      go_ret
      have h12 : k = 12 := by omega
      subst h12
      exact ⟨ret_bool (okF_iff.2 HE.out).symm, rfl⟩
set_option maxHeartbeats 400000 in
theorem specOk_any (v : Value) (L : List (Nat → Nat)) (w : World) (h : SlAt eFr w w.heap.size v L) :
    Calls Try.prog 74 #[v] w fun e w' => e = .returned (.bool (okB L)) ∧ w = w' := by
  obtain ⟨A, c, rfl, h1, h2, hA⟩ := h
  unfold maxLen at h2
  go_enter Try.func74, Try.ntmps74
  go_wp2
  go_loop [3] (fun i => ∃ k : Nat, k ≤ L.length ∧ i = .int .i64 k ∧ (∀ j, j < k → okF (fAt L j) = true)) (fun i => L.length - (intOf i).toNat)
  case atStart => exact ⟨0, by omega, rfl, by omega⟩
  case round =>
    obtain ⟨k, hk, rfl, he⟩ := hrel
    have HE := Lib.hid he
    clear he
    by_cases hlt : k < L.length
    · obtain ⟨b1, o1, rfl, hb1, r1⟩ := hA (by omega)
      have g1 := range_part r1 (fAt_get hlt)
      rw [eFr_n] at g1
      clear hA r1
      cases ho : okF (fAt L k) with
      | true =>
        have HO := Lib.hid ho
        have cO := okAt_any b1 (o1 + k * 12) (fAt L k) w g1
        rw [ho] at cO
        clear ho
        go_wp2_with (go_at_call 137; refine cO.mono ?_; rintro e w' ⟨rfl, rfl⟩)
        go_round
        case rel =>
          go_light
          refine ⟨k + 1, by omega, by go_num, ?_⟩
          intro j hj
          rcases Nat.lt_succ_iff_lt_or_eq.1 hj with h | rfl
          · exact HE.out j h
          · exact HO.out
        case measure => simp [intOf]; omega
      | false =>
        have HO := Lib.hid ho
        have cO := okAt_any b1 (o1 + k * 12) (fAt L k) w g1
        rw [ho] at cO
        clear ho
        go_wp2_with (go_at_call 137; refine cO.mono ?_; rintro e w' ⟨rfl, rfl⟩)
        go_ret
        exact ⟨ret_bool (okB_false_at hlt HO.out).symm, rfl⟩
    · have hkl : k = L.length := by omega
      subst hkl
      clear hA
      by_cases h40 : L.length ≤ 40
      · go_wp2
        go_ret
        exact ⟨ret_bool ((decide_eq_true (by omega)).trans (okB_iff.2 ⟨h40, HE.out⟩).symm), rfl⟩
      · go_wp2
        go_ret
        exact ⟨ret_bool ((decide_eq_false (by omega)).trans (okB_false_len (by omega)).symm), rfl⟩
set_option maxHeartbeats 1000000 in
theorem differAt_any (b1 o1 b2 o2 : Nat) (f g : Nat → Nat) (hf : ∀ k, f k < 65536) (hg : ∀ k, g k < 65536) (w : World) (hA : w.rangeAt b1 o1 (FC f).toList) (l1 : b1 < w.heap.size) (hB : w.rangeAt b2 o2 (FC g).toList) (l2 : b2 < w.heap.size) :
    Calls Try.prog 148 #[.pointer (some ⟨b1, o1, none⟩), .pointer (some ⟨b2, o2, none⟩)] w fun e' w' => e' = .returned (.int .i64 (dots (unlikeF f g)).length) ∧ Below w.heap.size w w' := by
  have b4 := Blk.new w 30 zeroF
  have h0 := (Below.refl w.heap.size w).alloc (Nat.le_refl _) (.cells (FC zeroF) 30)
  rw [FC_zero] at b4 h0
  go_enter Try.func148, Try.ntmps148
  go_wp2
  generalize (w.alloc _) = w1 at *
  go_loopw [6] (fun i wr => ∃ k : Nat, k ≤ 12 ∧ i = .int .i64 k ∧ Blk wr (w.heap.size) 30 (fun y => if y < k then unlikeF f g y else 0) ∧ Below w.heap.size w wr) (fun i _ => 12 - (intOf i).toNat)
  case atStart => exact ⟨0, by omega, rfl, b4.ext (by simp [zeroF]), h0⟩
  case round =>
    obtain ⟨k, hk, rfl, b4, hb⟩ := hrel
    by_cases hlt : k < 12
    · have c1 := fr_cell (range_below hA hb l1) hlt
      have c2 := fr_cell (range_below hB hb l2) hlt
      have c4 := b4.cell hlt
      have f4 := b4.free k
      have hop := u16_xor_nat (f k) (g k) (hf k) (hg k)
      go_wp2
      go_region
      go_wp2
      go_roundw
      case rel =>
        go_light
        refine ⟨k + 1, by omega, by go_num, ((b4.set hlt _).ext ?_).drew, (hb.setCell (p := ⟨w.heap.size, k, none⟩) (by show w.heap.size ≤ w.heap.size; omega) _).drew⟩
        intro j hj
        unfold upd
        by_cases e : j = k
        · subst e; simp [unlikeF]
        · rw [if_neg e]; simp only [show j < k + 1 ↔ j < k by omega]
      case measure => simp [intOf]; omega
    · have h12 : k = 12 := by omega
      subst h12
      replace b4 := b4.ext (f' := unlikeF f g) (fun j hj => by rw [if_pos (by omega)])
      go_wp2_with (go_at_call 184; refine (l01Count_any _ _ _ (unlikeF_lt hf hg) b4).mono ?_; rintro e' w2 ⟨rfl, hb1⟩)
      go_ret
      exact ⟨rfl, grown_below hb hb1 hb.size⟩
theorem unlikeF_ok' {f g : Nat → Nat} (hf : okF f = true) (hg : okF g = true) : okF (unlikeF f g) = true := okF_iff.2 fun y hy => by
  have h1 := okF_iff.1 hf y hy
  have h2 := okF_iff.1 hg y hy
  have : unlikeF f g y < 2 ^ 12 := Nat.xor_lt_two_pow (by omega) (by omega)
  omega
/-- .. of valid frames: by how many dots they differ. -/
theorem differAt_ok (b1 o1 b2 o2 : Nat) (f g : Nat → Nat) (hf : ∀ k, f k < 65536) (hg : ∀ k, g k < 65536) (of : okF f = true) (og : okF g = true) (w : World) (hA : w.rangeAt b1 o1 (FC f).toList) (l1 : b1 < w.heap.size) (hB : w.rangeAt b2 o2 (FC g).toList) (l2 : b2 < w.heap.size) :
    Calls Try.prog 148 #[.pointer (some ⟨b1, o1, none⟩), .pointer (some ⟨b2, o2, none⟩)] w fun e' w' => e' = .returned (.int .i64 (difN f g)) ∧ Below w.heap.size w w' := by
  have := differAt_any b1 o1 b2 o2 f g hf hg w hA l1 hB l2
  rw [length_dots _ (unlikeF_ok' of og)] at this
  exact this
theorem infoI64 : (Try.prog.info? 2).map (fun i => (i.zero, i.size, i.bytes)) = some (some (.int .i64 0), (eI .i64).n, 8) := by kernel_rfl
set_option maxHeartbeats 1000000 in
theorem jumps_any (v : Value) (L : List (Nat → Nat)) (w : World) (hL : ltL L) (ho : okB L = true) (h : SlAt eFr w w.heap.size v L) :
    Calls Try.prog 158 #[v] w (GivesV (eI .i64) 2 (jumpsL L) w) := by
  obtain ⟨A, c, rfl, h1, h2, hA⟩ := h
  have ho' := okB_iff.1 ho
  have hlen := ho'.1
  have HOK := Lib.hid ho'.2
  clear ho ho'
  unfold maxLen at h2
  have hown := OwnL.made (E := eI .i64) w w.heap.size 2 (Nat.le_refl _)
  have h0 := (Below.refl w.heap.size w).alloc (Nat.le_refl _) (.cells #[] 2)
  go_enter Try.func158, Try.ntmps158
  go_wp2
  go_loopw [3, 4] (fun u i wr => ∃ k : Nat, k ≤ L.length - 1 ∧ i = .int .i64 ((k + 1 : Nat) : Int) ∧ OwnL (eI .i64) wr w.heap.size 2 u (tab (jmp L) k) ∧ Below w.heap.size w wr) (fun _ i _ => L.length - (intOf i).toNat)
  case atStart => exact ⟨0, by omega, rfl, hown, h0⟩
  case round =>
    clear hown h0
    obtain ⟨k, hk, rfl, hown, hb⟩ := hrel
    by_cases hlt : k + 1 < L.length
    · obtain ⟨b1, o1, rfl, hb1, r1⟩ := hA (by omega)
      have g1 := range_below (range_part r1 (fAt_get (show k < L.length by omega))) hb hb1
      have g2 := range_below (range_part r1 (fAt_get hlt)) hb hb1
      have l1 : b1 < wr.heap.size := Nat.lt_of_lt_of_le hb1 hb.size
      have hj := jmp_in hlt
      have cD := fun w' (hb' : Below wr.heap.size wr w') => differAt_ok b1 (o1 + k * 12) b1 (o1 + (k + 1) * 12) _ _ (fAt_lt hL k) (fAt_lt hL (k + 1)) (HOK.out k (by omega)) (HOK.out (k + 1) hlt) w' (range_below g1 hb' l1) (Nat.lt_of_lt_of_le l1 hb'.size) (range_below g2 hb' l1) (Nat.lt_of_lt_of_le l1 hb'.size)
      rw [eFr_n] at g1 g2
      have CD := Lib.hid cD
      have HJ := Lib.hid hj
      have k1 : IntKind.i64.wrap ((k : Int) + 1 - 1) = (k : Int) := by rw [IntWalk.i64_in _ (by omega)]; omega
      have k2 : IntKind.i64.wrap (k : Int) = (k : Int) := IntWalk.i64_in _ (by omega)
      have hlt0 : k < L.length := by omega
      have hi1 : (k : Int) + 1 < (L.length : Int) := by omega
      have hi2 : 0 ≤ (k : Int) + 1 := by omega
      have hi3 : ((k : Int) + 1).toNat = k + 1 := by omega
      clear hA r1 cD g1 g2 hj
      go_wp2_with fail
      refine wp_region_pre_tail 1 9 (by kernel_rfl) (by kernel_rfl) ?_
      simp only [List.take_succ_cons, List.take_zero, List.drop_succ_cons, List.drop_zero, runMoves, moveOf, Option.isNone_none, if_true]
      go_simp
      repeat (quiet_step (exact Calls.regrown_of (CD.out _ (below_regrown _ _ _))))
      refine wpQuiet_nil ?_
      intro w3 hb3
      replace hb := grown_below hb hb3 hb.size
      replace hown := hown.below hb3
      clear CD hb3 k1 k2 hlt0 hi1 hi2 hi3
      go_wp2_with (at_builtin; refine wpList_append_one rfl _ _ 39 rfl w.heap.size 2 Try.underlying39 infoI64 rfl (by decide) (by omega) (hown.alloc _) rfl (difN (fAt L k) (fAt L (k + 1)) : Int) rfl (range_new _ _ _) (by rw [tab_length]; omega) (by have := hb.size; simp; omega) ?_; intro v' w4 hown' hgrow)
      rw [normalOnly_normal]
      go_wp2
      go_roundw
      case rel =>
        go_light
        refine ⟨k + 1, by omega, by go_num, ?_, (hown.alloc _).grown_below (hb.alloc hb.size _) hgrow (Nat.le_refl _) (by have := hb.size; simp; omega)⟩
        rw [tab_succ, HJ.out]; exact hown'
      case measure => simp [intOf]; omega
    · have hkl : k = L.length - 1 := by omega
      subst hkl
      clear hA
      go_wp2
      go_ret
      exact ⟨_, rfl, hown, hb⟩
/-- Sums of numbers, whatever the list. -/
theorem sum_any (v : Value) (l : List Int) (n : Int) (w : World) (hn : 0 ≤ n) (hn2 : n * l.length ≤ 1000000000000) (hl : ∀ x ∈ l, 0 ≤ x ∧ x ≤ n) (h : SlAt (eI .i64) w w.heap.size v l) :
    Calls Try.prog 157 #[v] w fun e w' => e = .returned (.int .i64 (sumI l)) ∧ w = w' := by
  obtain ⟨A, c, rfl, h1, h2, hA⟩ := h
  unfold maxLen at h2
  go_enter Try.func157, Try.ntmps157
  go_wp2
  go_loop [3, 4] (fun s i => ∃ k : Nat, k ≤ l.length ∧ i = .int .i64 k ∧ s = .int .i64 (sumI (l.take k))) (fun _ i => l.length - (intOf i).toNat)
  case atStart => exact ⟨0, by omega, rfl, rfl⟩
  case round =>
    obtain ⟨k, hk, rfl, rfl⟩ := hrel
    by_cases hlt : k < l.length
    · obtain ⟨b1, o1, rfl, hb1, r1⟩ := hA (by omega)
      have c1 := int_cell r1 hlt
      have hg := getD_get (z := 0) hlt
      have hs := sumI_take l hg
      have hm := hl _ (List.mem_of_getElem? hg)
      have hb := sumI_bounds (l := l.take k) hn (fun x hx => hl x (List.mem_of_mem_take hx))
      have hb2 : n * ((l.take k).length : Int) ≤ n * l.length := Int.mul_le_mul_of_nonneg_left (by have := List.length_take_le k l; omega) hn
      have hb3 : n ≤ n * l.length := by
        have : n * 1 ≤ n * (l.length : Int) := Int.mul_le_mul_of_nonneg_left (by omega) hn
        omega
      generalize l.getD k 0 = x at *
      have HS := Lib.hid hs
      generalize sumI (l.take k) = s at *
      have hm1 := hm.1
      have q1 : 0 ≤ s := hb.1
      have q2 : s ≤ 1000000000000 := by omega
      have q3 : x ≤ 1000000000000 := by omega
      clear hA r1 hl hb hb2 hb3 hs hg hm hn2
      go_wp2
      go_round
      case rel =>
        go_light
        exact ⟨k + 1, by omega, by go_num, by rw [HS.out]⟩
      case measure => simp [intOf]; omega
    · have hkl : k = l.length := by omega
      subst hkl
      clear hA
      go_wp2
      go_ret
      exact ⟨ret_int (by first | rfl | rw [List.take_of_length_le (Nat.le_refl _)]), rfl⟩
end Go.Proofs.Ytajlkleoincoeaa
