import Derived.Test.YtajlkleoincoeacDoorM9
import Derived.Test.YtajlkleoincoeacDoorM10
import Derived.Test.YtajlkleoincoeacDoorRows
import Derived.Test.YtajlkleoincoeacDoorM5
import Derived.LaidEql
import Derived.Stop.Asserts
import Derived.Stop.LaidErr
import Derived.RowKitTokens
import Derived.ChangeBears2
import Derived.Lib.Hide
import Derived.Test.YtajlkleoincoeacDoorM2
import Derived.Test.YtajlkleoincoeacDoorM4
/- impl: Track.at. -/
namespace Go.Proofs.YtajlkleoincoeacDoor
set_option maxRecDepth 100000
open Go.RowKit
set_option linter.unusedVariables false
set_option linter.unusedSimpArgs false
/-- The two keys at hand, behind n keys. -/
def frK (L : List (Int × Int × Int)) (n : Nat) : Int × Int × Int := kAt L (n - 1)
def toK (L : List (Int × Int × Int)) (n : Nat) : Int × Int × Int := kAt L (min n (L.length - 1))
set_option maxHeartbeats 4000000 in
theorem at_any (v : Value) (L : List (Int × Int × Int)) (ea t : Int) (w : World) (ho : okT L = true) (he : 0 ≤ ea ∧ ea ≤ 3) (ht : 0 ≤ t ∧ t ≤ 200) (h : SlAt eKy w w.heap.size v L) :
    Calls Tryd.prog 88 #[v, .int .i64 ea, .int .i64 t] w fun r w' => r = .returned (.agg (KC (plK L ea t))) ∧ Below w.heap.size w w' := by
  obtain ⟨A, c, rfl, h1, h2, hA⟩ := h
  unfold maxLen at h2
  have hlen := (okT_iff.1 ho).1
  obtain ⟨b1, o1, rfl, hb1, r1⟩ := hA (by omega)
  have hl1 := hlen.1
  have hl2 := hlen.2
  have hl0 : 0 < L.length := by omega
  have ht1 := ht.1
  have ht2 := ht.2
  clear hA hlen h2
  have r6 := Row.new w 82 (KC zeroK)
  have hb := (Below.refl w.heap.size w).alloc (Nat.le_refl _) (.cells (KC zeroK) 82)
  go_enter Tryd.func88, Tryd.ntmps88
  go_wp2
  change Code.wp _ _ _ _ (w.alloc (.cells (KC zeroK) 82))
  generalize (w.alloc (.cells (KC zeroK) 82)) = w1 at *
  have r1' := range_below r1 hb hb1
  have l1 : b1 < w1.heap.size := Nat.lt_of_lt_of_le hb1 hb.size
  go_loop [7] (fun i => ∃ k : Nat, k ≤ L.length ∧ i = .int .i64 k ∧ (∀ j, j < k → (kAt L j).1 ≤ t)) (fun i => L.length - (intOf i).toNat)
  case atStart => exact ⟨0, by omega, rfl, by omega⟩
  case round =>
    obtain ⟨k, hk, rfl, hlo⟩ := hrel
    have HLO := Lib.hid hlo
    clear hlo
    by_cases hgo : ∃ hlt : k < L.length, (kAt L k).1 ≤ t
    · obtain ⟨hlt, hle⟩ := hgo
      have g0 := range_part r1' (kAt_get hlt)
      rw [eKy_n] at g0
      have c0 := ky_cell0 g0
      have q0 := (okT_key ho hlt).1
      have HH := Lib.hid (show ∀ j, j < k + 1 → (kAt L j).1 ≤ t from fun j hj => by
        by_cases e : j = k
        · subst e; exact hle
        · exact HLO.out j (by omega))
      clear g0 r1
      generalize (kAt L k).1 = s at *
      have kk : IntKind.i64.wrap s = s := IntWalk.i64_in _ (by omega)
      go_wp2
      go_round
      case rel =>
        go_light
        exact ⟨k + 1, by omega, by go_num, HH.out⟩
      case measure => simp [intOf]; omega
    · have hn : nxt L t = k := nxt_eq hk HLO.out (fun hlt => by
        apply Classical.byContradiction
        intro hc
        exact hgo ⟨hlt, by omega⟩)
      have hk1 : k - 1 < L.length := by omega
      have hk2 : min k (L.length - 1) < L.length := by omega
      have ga := range_part r1' (kAt_get hk1)
      have gd := range_part r1' (kAt_get hk2)
      have qa := okT_key ho hk1
      have qd := okT_key ho hk2
      have e1 : IntKind.i64.wrap ((k : Int) - 1) = (k : Int) - 1 := IntWalk.i64_in _ (by omega)
      have e3 : IntKind.i64.wrap ((L.length : Int) - 1) = (L.length : Int) - 1 := IntWalk.i64_in _ (by omega)
      have e2 : (if (k : Int) - 1 < 0 then (0 : Int) else (k : Int) - 1) = ((k - 1 : Nat) : Int) := by split <;> omega
      have e4 : (if (L.length : Int) - 1 < (k : Int) then (L.length : Int) - 1 else (k : Int)) = ((min k (L.length - 1) : Nat) : Int) := by split <;> omega
      rw [eKy_n] at ga gd
      by_cases hk0 : k = 0
      · have hend : k < L.length := by omega
        have hkk : kAt L (min k (L.length - 1)) = kAt L (k - 1) := by rw [show min k (L.length - 1) = k - 1 by omega]
        have hpl : plK L ea t = (t, (kAt L (k - 1)).2) := by rw [plK_ahead (hn.trans hk0), hk0]
        rw [hkk] at gd qd
        have HP := Lib.hid hpl
        have g0 := range_part r1' (kAt_get hend)
        rw [eKy_n] at g0
        have c0 := ky_cell0 g0
        have q0 := (okT_key ho hend).1
        have hnt : t < (kAt L k).1 := by have := nxt_hi L t (by omega); rwa [hn] at this
        generalize (kAt L k).1 = s at *
        have kk : IntKind.i64.wrap s = s := IntWalk.i64_in _ (by omega)
        clear g0
        clear hgo hn r1 r1' HLO hkk hpl qd
        generalize hi1 : k - 1 = i1 at *
        generalize hi2 : min k (L.length - 1) = i2 at *
        obtain ⟨a0, a1, a2, hka⟩ : ∃ a0 a1 a2, kAt L i1 = (a0, a1, a2) := ⟨_, _, _, rfl⟩
        rw [hka] at ga gd qa HP
        dsimp only at qa HP
        have f16 : IntKind.i16.wrap t = t := IntWalk.i16_in _ (by omega)
        have heq := fun w => run_eql_ky w (a0, a1, a2) (a0, a1, a2)
        rw [decide_eq_true rfl] at heq
        clear hka hi1 hi2 hk0
        go_wp2
        refine' wp_cut_two _ (fun g8 g9 w' => Row w' g8 82 (KC (a0, a1, a2)) ∧ Row w' g9 82 (KC (a0, a1, a2)) ∧ Below w1.heap.size w1 w' ∧ w1.heap.size ≤ g8 ∧ w1.heap.size ≤ g9) ?hreg1 ?kreg1
        case' hreg1 =>
          refine wp_region_held_drew (S := fun w' => Below w1.heap.size w1 w') (by kernel_rfl) (below_drew_refl w1) (fun hS => ?_)
          generalize w1.drew = v0 at hS ⊢
          refine held_take (i := 0) (v := ?_) rfl (by kernel_rfl) (by kernel_rfl) (by kernel_rfl) (fun _ _ _ h => nomatch h.1) (Or.inl ⟨by rfl, ?_⟩) hS ?_
          rotate_left
          · intro w hSw; go_simp; (try with_reducible rfl)
          try simp only [Act.put, List.setIfInBounds_toArray, List.set_cons_zero, List.set_cons_succ]
          refine held_take (i := 1) (v := ?_) rfl (by kernel_rfl) (by kernel_rfl) (by kernel_rfl) (fun _ _ _ h => nomatch h.1) (Or.inl ⟨by rfl, ?_⟩) hS ?_
          rotate_left
          · intro w hSw; go_simp; (try with_reducible rfl)
          try simp only [Act.put, List.setIfInBounds_toArray, List.set_cons_zero, List.set_cons_succ]
          refine held_take (i := 2) (v := ?_) rfl (by kernel_rfl) (by kernel_rfl) (by kernel_rfl) (fun _ _ _ h => nomatch h.1) (Or.inl ⟨by rfl, ?_⟩) hS ?_
          rotate_left
          · intro w hSw; go_simp; (try with_reducible rfl)
          try simp only [Act.put, List.setIfInBounds_toArray, List.set_cons_zero, List.set_cons_succ]
          refine held_take (i := 3) (v := ?_) rfl (by kernel_rfl) (by kernel_rfl) (by kernel_rfl) (fun _ _ _ h => nomatch h.1) (Or.inl ⟨by rfl, ?_⟩) hS ?_
          rotate_left
          · intro w hSw; go_simp; (try with_reducible rfl)
          try simp only [Act.put, List.setIfInBounds_toArray, List.set_cons_zero, List.set_cons_succ]
          refine held_take (i := 4) (v := ?_) rfl (by kernel_rfl) (by kernel_rfl) (by kernel_rfl) (fun _ _ _ h => nomatch h.1) (Or.inl ⟨by rfl, ?_⟩) hS ?_
          rotate_left
          · intro w hSw; go_simp; (try with_reducible rfl)
          try simp only [Act.put, List.setIfInBounds_toArray, List.set_cons_zero, List.set_cons_succ]
          refine held_take (i := 5) rfl (by kernel_rfl) (by kernel_rfl) (by kernel_rfl) (fun _ _ _ h => nomatch h.1) (yieldsIf_load_el (E := eKy) rfl 82 _ rfl _ _ rfl (a0, a1, a2) (KC (a0, a1, a2)) rfl (fun w' h => range_below ga h l1) Tryd.underlying82 rfl (by kernel_rfl)) hS ?_
          try simp only [Act.put, List.setIfInBounds_toArray, List.set_cons_zero, List.set_cons_succ]
          refine held_take (i := 6) (v := ?_) rfl (by kernel_rfl) (by kernel_rfl) (by kernel_rfl) (fun _ _ _ h => nomatch h.1) (Or.inl ⟨by rfl, ?_⟩) hS ?_
          rotate_left
          · intro w hSw; go_simp; (try with_reducible rfl)
          try simp only [Act.put, List.setIfInBounds_toArray, List.set_cons_zero, List.set_cons_succ]
          refine held_take (i := 7) (v := ?_) rfl (by kernel_rfl) (by kernel_rfl) (by kernel_rfl) (fun _ _ _ h => nomatch h.1) (Or.inl ⟨by rfl, ?_⟩) hS ?_
          rotate_left
          · intro w hSw; go_simp; (try with_reducible rfl)
          try simp only [Act.put, List.setIfInBounds_toArray, List.set_cons_zero, List.set_cons_succ]
          refine held_take (i := 8) (v := ?_) rfl (by kernel_rfl) (by kernel_rfl) (by kernel_rfl) (fun _ _ _ h => nomatch h.1) (Or.inl ⟨by rfl, ?_⟩) hS ?_
          rotate_left
          · intro w hSw; go_simp; (try with_reducible rfl)
          try simp only [Act.put, List.setIfInBounds_toArray, List.set_cons_zero, List.set_cons_succ]
          refine held_take (i := 9) (v := ?_) rfl (by kernel_rfl) (by kernel_rfl) (by kernel_rfl) (fun _ _ _ h => nomatch h.1) (Or.inl ⟨by rfl, ?_⟩) hS ?_
          rotate_left
          · intro w hSw; go_simp; (try with_reducible rfl)
          try simp only [Act.put, List.setIfInBounds_toArray, List.set_cons_zero, List.set_cons_succ]
          refine held_take (i := 10) (v := ?_) rfl (by kernel_rfl) (by kernel_rfl) (by kernel_rfl) (fun _ _ _ h => nomatch h.1) (Or.inl ⟨by rfl, ?_⟩) hS ?_
          rotate_left
          · intro w hSw; go_simp; (try with_reducible rfl)
          try simp only [Act.put, List.setIfInBounds_toArray, List.set_cons_zero, List.set_cons_succ]
          refine held_take (i := 11) (v := ?_) rfl (by kernel_rfl) (by kernel_rfl) (by kernel_rfl) (fun _ _ _ h => nomatch h.1) (Or.inl ⟨by rfl, ?_⟩) hS ?_
          rotate_left
          · intro w hSw; go_simp; (try with_reducible rfl)
          try simp only [Act.put, List.setIfInBounds_toArray, List.set_cons_zero, List.set_cons_succ]
          refine held_take (i := 12) (v := ?_) rfl (by kernel_rfl) (by kernel_rfl) (by kernel_rfl) (fun _ _ _ h => nomatch h.1) (Or.inl ⟨by rfl, ?_⟩) hS ?_
          rotate_left
          · intro w hSw; go_simp; (try with_reducible rfl)
          try simp only [Act.put, List.setIfInBounds_toArray, List.set_cons_zero, List.set_cons_succ]
          refine held_take (i := 13) rfl (by kernel_rfl) (by kernel_rfl) (by kernel_rfl) (fun _ _ _ h => nomatch h.1) (yieldsIf_load_el (E := eKy) rfl 82 _ rfl _ _ rfl (a0, a1, a2) (KC (a0, a1, a2)) rfl (fun w' h => range_below gd h l1) Tryd.underlying82 rfl (by kernel_rfl)) hS ?_
          try simp only [Act.put, List.setIfInBounds_toArray, List.set_cons_zero, List.set_cons_succ]
          refine wpAnyH_ready (rs := [14, 15]) (by kernel_rfl) (by simp) ?_
          refine held_cons rfl (fun K hK => ?_) ?_
          · go_simp
            refine hK.out _ _ (hS.alloc hS.size _) (fun hS' => ?_)
            have n8 := Row.new v0 82 (KC zeroK)
            have q8 : w1.heap.size ≤ v0.heap.size := hS.size
            have lt8 : v0.heap.size < (v0.alloc (.cells (KC zeroK) 82)).heap.size := by simp
            change Below w1.heap.size w1 (v0.alloc (.cells (KC zeroK) 82)) at hS'
            clear hK K hS; have hS := hS'; clear hS'
            change wpAnyH _ _ _ _ _ _ _ _ (v0.alloc (.cells (KC zeroK) 82))
            generalize v0.alloc (.cells (KC zeroK) 82) = v1 at *
            generalize v0.heap.size = g8 at *
            clear v0
            try simp only [Act.put, List.setIfInBounds_toArray, List.set_cons_zero, List.set_cons_succ]
            refine wpAnyH_ready (rs := [15]) (by kernel_rfl) (by simp) ?_
            refine held_cons rfl (fun K hK => ?_) AllReadyH.nil
            go_simp
            refine hK.out _ _ (hS.alloc hS.size _) (fun hS' => ?_)
            have n9 := Row.new v1 82 (KC zeroK)
            replace n8 := n8.alloc (.cells (KC zeroK) 82)
            have q9 : w1.heap.size ≤ v1.heap.size := hS.size
            have hne : g8 ≠ v1.heap.size := Nat.ne_of_lt lt8
            have lt9 : v1.heap.size < (v1.alloc (.cells (KC zeroK) 82)).heap.size := by simp
            replace lt8 : g8 < (v1.alloc (.cells (KC zeroK) 82)).heap.size := by simp; omega
            change Below w1.heap.size w1 (v1.alloc (.cells (KC zeroK) 82)) at hS'
            clear hK K hS; have hS := hS'; clear hS'
            change wpAnyH _ _ _ _ _ _ _ _ (v1.alloc (.cells (KC zeroK) 82))
            generalize v1.alloc (.cells (KC zeroK) 82) = v2 at *
            generalize v1.heap.size = g9 at *
            clear v1
            try simp only [Act.put, List.setIfInBounds_toArray, List.set_cons_zero, List.set_cons_succ]
            refine wpAnyH_ready (rs := [16]) (by kernel_rfl) (by simp) ?_
            refine held_cons rfl (fun K hK => ?_) AllReadyH.nil
            rw [if_pos (by rfl)]
            refine wp_store_rowH 82 _ _ rfl g8 rfl n8 rfl rfl (by intro v hv; simp [KC] at hv; rcases hv with rfl | rfl | rfl <;> rfl) (by kernel_rfl) ?_
            refine hK.out _ _ (below_setRow hS q8 _) (fun hS' => ?_)
            replace n9 := n9.setRowOther (KC (a0, a1, a2)) (Ne.symm hne)
            replace n8 := n8.setRow (KC (a0, a1, a2))
            have lt8' := n8.lt
            have lt9' := n9.lt
            clear lt8; have lt8 := lt8'; clear lt8'
            clear lt9; have lt9 := lt9'; clear lt9'
            clear hK K hS; have hS := hS'; clear hS'
            generalize v2.setRow g8 (KC (a0, a1, a2)) = v3 at *
            clear v2
            try simp only [Act.put, List.setIfInBounds_toArray, List.set_cons_zero, List.set_cons_succ]
            refine wpAnyH_ready (rs := [17]) (by kernel_rfl) (by simp) ?_
            refine held_cons rfl (fun K hK => ?_) AllReadyH.nil
            rw [if_pos (by rfl)]
            refine wp_store_rowH 82 _ _ rfl g9 rfl n9 rfl rfl (by intro v hv; simp [KC] at hv; rcases hv with rfl | rfl | rfl <;> rfl) (by kernel_rfl) ?_
            refine hK.out _ _ (below_setRow hS q9 _) (fun hS' => ?_)
            replace n8 := n8.setRowOther (KC (a0, a1, a2)) hne
            replace n9 := n9.setRow (KC (a0, a1, a2))
            try simp only [Act.put, List.setIfInBounds_toArray, List.set_cons_zero, List.set_cons_succ]
            refine wpAnyH_done (by kernel_rfl) ⟨rfl, g8, g9, ?_, n8, n9, hS', q8, q9⟩ _
            exact rfl
          refine held_cons rfl (fun K hK => ?_) AllReadyH.nil
          go_simp
          refine hK.out _ _ (hS.alloc hS.size _) (fun hS' => ?_)
          have n9 := Row.new v0 82 (KC zeroK)
          have q9 : w1.heap.size ≤ v0.heap.size := hS.size
          have lt9 : v0.heap.size < (v0.alloc (.cells (KC zeroK) 82)).heap.size := by simp
          change Below w1.heap.size w1 (v0.alloc (.cells (KC zeroK) 82)) at hS'
          clear hK K hS; have hS := hS'; clear hS'
          change wpAnyH _ _ _ _ _ _ _ _ (v0.alloc (.cells (KC zeroK) 82))
          generalize v0.alloc (.cells (KC zeroK) 82) = v5 at *
          generalize v0.heap.size = g9 at *
          clear v0
          try simp only [Act.put, List.setIfInBounds_toArray, List.set_cons_zero, List.set_cons_succ]
          refine wpAnyH_ready (rs := [14]) (by kernel_rfl) (by simp) ?_
          refine held_cons rfl (fun K hK => ?_) AllReadyH.nil
          go_simp
          refine hK.out _ _ (hS.alloc hS.size _) (fun hS' => ?_)
          have n8 := Row.new v5 82 (KC zeroK)
          replace n9 := n9.alloc (.cells (KC zeroK) 82)
          have q8 : w1.heap.size ≤ v5.heap.size := hS.size
          have hne : v5.heap.size ≠ g9 := Nat.ne_of_gt lt9
          have lt8 : v5.heap.size < (v5.alloc (.cells (KC zeroK) 82)).heap.size := by simp
          replace lt9 : g9 < (v5.alloc (.cells (KC zeroK) 82)).heap.size := by simp; omega
          change Below w1.heap.size w1 (v5.alloc (.cells (KC zeroK) 82)) at hS'
          clear hK K hS; have hS := hS'; clear hS'
          change wpAnyH _ _ _ _ _ _ _ _ (v5.alloc (.cells (KC zeroK) 82))
          generalize v5.alloc (.cells (KC zeroK) 82) = v6 at *
          generalize v5.heap.size = g8 at *
          clear v5
          try simp only [Act.put, List.setIfInBounds_toArray, List.set_cons_zero, List.set_cons_succ]
          refine wpAnyH_ready (rs := [16]) (by kernel_rfl) (by simp) ?_
          refine held_cons rfl (fun K hK => ?_) AllReadyH.nil
          rw [if_pos (by rfl)]
          refine wp_store_rowH 82 _ _ rfl g8 rfl n8 rfl rfl (by intro v hv; simp [KC] at hv; rcases hv with rfl | rfl | rfl <;> rfl) (by kernel_rfl) ?_
          refine hK.out _ _ (below_setRow hS q8 _) (fun hS' => ?_)
          replace n9 := n9.setRowOther (KC (a0, a1, a2)) (Ne.symm hne)
          replace n8 := n8.setRow (KC (a0, a1, a2))
          have lt8' := n8.lt
          have lt9' := n9.lt
          clear lt8; have lt8 := lt8'; clear lt8'
          clear lt9; have lt9 := lt9'; clear lt9'
          clear hK K hS; have hS := hS'; clear hS'
          generalize v6.setRow g8 (KC (a0, a1, a2)) = v7 at *
          clear v6
          try simp only [Act.put, List.setIfInBounds_toArray, List.set_cons_zero, List.set_cons_succ]
          refine wpAnyH_ready (rs := [17]) (by kernel_rfl) (by simp) ?_
          refine held_cons rfl (fun K hK => ?_) AllReadyH.nil
          rw [if_pos (by rfl)]
          refine wp_store_rowH 82 _ _ rfl g9 rfl n9 rfl rfl (by intro v hv; simp [KC] at hv; rcases hv with rfl | rfl | rfl <;> rfl) (by kernel_rfl) ?_
          refine hK.out _ _ (below_setRow hS q9 _) (fun hS' => ?_)
          replace n8 := n8.setRowOther (KC (a0, a1, a2)) hne
          replace n9 := n9.setRow (KC (a0, a1, a2))
          try simp only [Act.put, List.setIfInBounds_toArray, List.set_cons_zero, List.set_cons_succ]
          refine wpAnyH_done (by kernel_rfl) ⟨rfl, g8, g9, ?_, n8, n9, hS', q8, q9⟩ _
          exact rfl
        case' kreg1 =>
          intro g8 g9 w2 ⟨n8, n9, hS, q8, q9⟩
          replace r6 := r6.below hS r6.lt
          replace hb := grown_below hb hS hb.size
          have x1 : w2.cell? ⟨g8, 1, none⟩ = some (.int .i8 a1) := n8.cell 1
          have x2 : w2.cell? ⟨g8, 2, none⟩ = some (.int .i8 a2) := n8.cell 2
          go_wp2_with (first | (refine wpList_load_row rfl 82 _ rfl _ rfl _ _ _ _ n8 Tryd.underlying82 rfl (by kernel_rfl) ?_) | (refine wpList_load_row rfl 82 _ rfl _ rfl _ _ _ _ n9 Tryd.underlying82 rfl (by kernel_rfl) ?_) | (refine wpList_store_row rfl 82 _ _ rfl _ rfl r6 rfl rfl (by intro v hv; simp at hv; rcases hv with rfl | rfl | rfl <;> rfl) (by kernel_rfl) ?_))
          have r7 := r6.setRow (KC (t, a1, a2))
          refine bodyPost_ret_row (p := 6) (ty := 82) (cs := KC (t, a1, a2)) rfl rfl r7 Tryd.underlying82 rfl (by kernel_rfl) rfl ⟨by rw [HP.out], below_setRow hb (Nat.le_refl _) _⟩
      by_cases hkl : k = L.length
      · have hend : ¬ k < L.length := by omega
        have hkk : kAt L (min k (L.length - 1)) = kAt L (k - 1) := by rw [show min k (L.length - 1) = k - 1 by omega]
        have hpl : plK L ea t = (t, (kAt L (k - 1)).2) := by rw [plK_behind (by omega) (by omega), show L.length - 1 = k - 1 by omega]
        rw [hkk] at gd qd
        have HP := Lib.hid hpl
        clear hgo hn r1 r1' HLO hkk hpl qd
        generalize hi1 : k - 1 = i1 at *
        generalize hi2 : min k (L.length - 1) = i2 at *
        obtain ⟨a0, a1, a2, hka⟩ : ∃ a0 a1 a2, kAt L i1 = (a0, a1, a2) := ⟨_, _, _, rfl⟩
        rw [hka] at ga gd qa HP
        dsimp only at qa HP
        have f16 : IntKind.i16.wrap t = t := IntWalk.i16_in _ (by omega)
        have heq := fun w => run_eql_ky w (a0, a1, a2) (a0, a1, a2)
        rw [decide_eq_true rfl] at heq
        clear hka hi1 hi2 hkl hk0
        go_wp2
        refine' wp_cut_two _ (fun g8 g9 w' => Row w' g8 82 (KC (a0, a1, a2)) ∧ Row w' g9 82 (KC (a0, a1, a2)) ∧ Below w1.heap.size w1 w' ∧ w1.heap.size ≤ g8 ∧ w1.heap.size ≤ g9) ?hreg2 ?kreg2
        case' hreg2 =>
          refine wp_region_held_drew (S := fun w' => Below w1.heap.size w1 w') (by kernel_rfl) (below_drew_refl w1) (fun hS => ?_)
          generalize w1.drew = v0 at hS ⊢
          refine held_take (i := 0) (v := ?_) rfl (by kernel_rfl) (by kernel_rfl) (by kernel_rfl) (fun _ _ _ h => nomatch h.1) (Or.inl ⟨by rfl, ?_⟩) hS ?_
          rotate_left
          · intro w hSw; go_simp; (try with_reducible rfl)
          try simp only [Act.put, List.setIfInBounds_toArray, List.set_cons_zero, List.set_cons_succ]
          refine held_take (i := 1) (v := ?_) rfl (by kernel_rfl) (by kernel_rfl) (by kernel_rfl) (fun _ _ _ h => nomatch h.1) (Or.inl ⟨by rfl, ?_⟩) hS ?_
          rotate_left
          · intro w hSw; go_simp; (try with_reducible rfl)
          try simp only [Act.put, List.setIfInBounds_toArray, List.set_cons_zero, List.set_cons_succ]
          refine held_take (i := 2) (v := ?_) rfl (by kernel_rfl) (by kernel_rfl) (by kernel_rfl) (fun _ _ _ h => nomatch h.1) (Or.inl ⟨by rfl, ?_⟩) hS ?_
          rotate_left
          · intro w hSw; go_simp; (try with_reducible rfl)
          try simp only [Act.put, List.setIfInBounds_toArray, List.set_cons_zero, List.set_cons_succ]
          refine held_take (i := 3) (v := ?_) rfl (by kernel_rfl) (by kernel_rfl) (by kernel_rfl) (fun _ _ _ h => nomatch h.1) (Or.inl ⟨by rfl, ?_⟩) hS ?_
          rotate_left
          · intro w hSw; go_simp; (try with_reducible rfl)
          try simp only [Act.put, List.setIfInBounds_toArray, List.set_cons_zero, List.set_cons_succ]
          refine held_take (i := 4) (v := ?_) rfl (by kernel_rfl) (by kernel_rfl) (by kernel_rfl) (fun _ _ _ h => nomatch h.1) (Or.inl ⟨by rfl, ?_⟩) hS ?_
          rotate_left
          · intro w hSw; go_simp; (try with_reducible rfl)
          try simp only [Act.put, List.setIfInBounds_toArray, List.set_cons_zero, List.set_cons_succ]
          refine held_take (i := 5) rfl (by kernel_rfl) (by kernel_rfl) (by kernel_rfl) (fun _ _ _ h => nomatch h.1) (yieldsIf_load_el (E := eKy) rfl 82 _ rfl _ _ rfl (a0, a1, a2) (KC (a0, a1, a2)) rfl (fun w' h => range_below ga h l1) Tryd.underlying82 rfl (by kernel_rfl)) hS ?_
          try simp only [Act.put, List.setIfInBounds_toArray, List.set_cons_zero, List.set_cons_succ]
          refine held_take (i := 6) (v := ?_) rfl (by kernel_rfl) (by kernel_rfl) (by kernel_rfl) (fun _ _ _ h => nomatch h.1) (Or.inl ⟨by rfl, ?_⟩) hS ?_
          rotate_left
          · intro w hSw; go_simp; (try with_reducible rfl)
          try simp only [Act.put, List.setIfInBounds_toArray, List.set_cons_zero, List.set_cons_succ]
          refine held_take (i := 7) (v := ?_) rfl (by kernel_rfl) (by kernel_rfl) (by kernel_rfl) (fun _ _ _ h => nomatch h.1) (Or.inl ⟨by rfl, ?_⟩) hS ?_
          rotate_left
          · intro w hSw; go_simp; (try with_reducible rfl)
          try simp only [Act.put, List.setIfInBounds_toArray, List.set_cons_zero, List.set_cons_succ]
          refine held_take (i := 8) (v := ?_) rfl (by kernel_rfl) (by kernel_rfl) (by kernel_rfl) (fun _ _ _ h => nomatch h.1) (Or.inl ⟨by rfl, ?_⟩) hS ?_
          rotate_left
          · intro w hSw; go_simp; (try with_reducible rfl)
          try simp only [Act.put, List.setIfInBounds_toArray, List.set_cons_zero, List.set_cons_succ]
          refine held_take (i := 9) (v := ?_) rfl (by kernel_rfl) (by kernel_rfl) (by kernel_rfl) (fun _ _ _ h => nomatch h.1) (Or.inl ⟨by rfl, ?_⟩) hS ?_
          rotate_left
          · intro w hSw; go_simp; (try with_reducible rfl)
          try simp only [Act.put, List.setIfInBounds_toArray, List.set_cons_zero, List.set_cons_succ]
          refine held_take (i := 10) (v := ?_) rfl (by kernel_rfl) (by kernel_rfl) (by kernel_rfl) (fun _ _ _ h => nomatch h.1) (Or.inl ⟨by rfl, ?_⟩) hS ?_
          rotate_left
          · intro w hSw; go_simp; (try with_reducible rfl)
          try simp only [Act.put, List.setIfInBounds_toArray, List.set_cons_zero, List.set_cons_succ]
          refine held_take (i := 11) (v := ?_) rfl (by kernel_rfl) (by kernel_rfl) (by kernel_rfl) (fun _ _ _ h => nomatch h.1) (Or.inl ⟨by rfl, ?_⟩) hS ?_
          rotate_left
          · intro w hSw; go_simp; (try with_reducible rfl)
          try simp only [Act.put, List.setIfInBounds_toArray, List.set_cons_zero, List.set_cons_succ]
          refine held_take (i := 12) (v := ?_) rfl (by kernel_rfl) (by kernel_rfl) (by kernel_rfl) (fun _ _ _ h => nomatch h.1) (Or.inl ⟨by rfl, ?_⟩) hS ?_
          rotate_left
          · intro w hSw; go_simp; (try with_reducible rfl)
          try simp only [Act.put, List.setIfInBounds_toArray, List.set_cons_zero, List.set_cons_succ]
          refine held_take (i := 13) rfl (by kernel_rfl) (by kernel_rfl) (by kernel_rfl) (fun _ _ _ h => nomatch h.1) (yieldsIf_load_el (E := eKy) rfl 82 _ rfl _ _ rfl (a0, a1, a2) (KC (a0, a1, a2)) rfl (fun w' h => range_below gd h l1) Tryd.underlying82 rfl (by kernel_rfl)) hS ?_
          try simp only [Act.put, List.setIfInBounds_toArray, List.set_cons_zero, List.set_cons_succ]
          refine wpAnyH_ready (rs := [14, 15]) (by kernel_rfl) (by simp) ?_
          refine held_cons rfl (fun K hK => ?_) ?_
          · go_simp
            refine hK.out _ _ (hS.alloc hS.size _) (fun hS' => ?_)
            have n8 := Row.new v0 82 (KC zeroK)
            have q8 : w1.heap.size ≤ v0.heap.size := hS.size
            have lt8 : v0.heap.size < (v0.alloc (.cells (KC zeroK) 82)).heap.size := by simp
            change Below w1.heap.size w1 (v0.alloc (.cells (KC zeroK) 82)) at hS'
            clear hK K hS; have hS := hS'; clear hS'
            change wpAnyH _ _ _ _ _ _ _ _ (v0.alloc (.cells (KC zeroK) 82))
            generalize v0.alloc (.cells (KC zeroK) 82) = v1 at *
            generalize v0.heap.size = g8 at *
            clear v0
            try simp only [Act.put, List.setIfInBounds_toArray, List.set_cons_zero, List.set_cons_succ]
            refine wpAnyH_ready (rs := [15]) (by kernel_rfl) (by simp) ?_
            refine held_cons rfl (fun K hK => ?_) AllReadyH.nil
            go_simp
            refine hK.out _ _ (hS.alloc hS.size _) (fun hS' => ?_)
            have n9 := Row.new v1 82 (KC zeroK)
            replace n8 := n8.alloc (.cells (KC zeroK) 82)
            have q9 : w1.heap.size ≤ v1.heap.size := hS.size
            have hne : g8 ≠ v1.heap.size := Nat.ne_of_lt lt8
            have lt9 : v1.heap.size < (v1.alloc (.cells (KC zeroK) 82)).heap.size := by simp
            replace lt8 : g8 < (v1.alloc (.cells (KC zeroK) 82)).heap.size := by simp; omega
            change Below w1.heap.size w1 (v1.alloc (.cells (KC zeroK) 82)) at hS'
            clear hK K hS; have hS := hS'; clear hS'
            change wpAnyH _ _ _ _ _ _ _ _ (v1.alloc (.cells (KC zeroK) 82))
            generalize v1.alloc (.cells (KC zeroK) 82) = v2 at *
            generalize v1.heap.size = g9 at *
            clear v1
            try simp only [Act.put, List.setIfInBounds_toArray, List.set_cons_zero, List.set_cons_succ]
            refine wpAnyH_ready (rs := [16]) (by kernel_rfl) (by simp) ?_
            refine held_cons rfl (fun K hK => ?_) AllReadyH.nil
            rw [if_pos (by rfl)]
            refine wp_store_rowH 82 _ _ rfl g8 rfl n8 rfl rfl (by intro v hv; simp [KC] at hv; rcases hv with rfl | rfl | rfl <;> rfl) (by kernel_rfl) ?_
            refine hK.out _ _ (below_setRow hS q8 _) (fun hS' => ?_)
            replace n9 := n9.setRowOther (KC (a0, a1, a2)) (Ne.symm hne)
            replace n8 := n8.setRow (KC (a0, a1, a2))
            have lt8' := n8.lt
            have lt9' := n9.lt
            clear lt8; have lt8 := lt8'; clear lt8'
            clear lt9; have lt9 := lt9'; clear lt9'
            clear hK K hS; have hS := hS'; clear hS'
            generalize v2.setRow g8 (KC (a0, a1, a2)) = v3 at *
            clear v2
            try simp only [Act.put, List.setIfInBounds_toArray, List.set_cons_zero, List.set_cons_succ]
            refine wpAnyH_ready (rs := [17]) (by kernel_rfl) (by simp) ?_
            refine held_cons rfl (fun K hK => ?_) AllReadyH.nil
            rw [if_pos (by rfl)]
            refine wp_store_rowH 82 _ _ rfl g9 rfl n9 rfl rfl (by intro v hv; simp [KC] at hv; rcases hv with rfl | rfl | rfl <;> rfl) (by kernel_rfl) ?_
            refine hK.out _ _ (below_setRow hS q9 _) (fun hS' => ?_)
            replace n8 := n8.setRowOther (KC (a0, a1, a2)) hne
            replace n9 := n9.setRow (KC (a0, a1, a2))
            try simp only [Act.put, List.setIfInBounds_toArray, List.set_cons_zero, List.set_cons_succ]
            refine wpAnyH_done (by kernel_rfl) ⟨rfl, g8, g9, ?_, n8, n9, hS', q8, q9⟩ _
            exact rfl
          refine held_cons rfl (fun K hK => ?_) AllReadyH.nil
          go_simp
          refine hK.out _ _ (hS.alloc hS.size _) (fun hS' => ?_)
          have n9 := Row.new v0 82 (KC zeroK)
          have q9 : w1.heap.size ≤ v0.heap.size := hS.size
          have lt9 : v0.heap.size < (v0.alloc (.cells (KC zeroK) 82)).heap.size := by simp
          change Below w1.heap.size w1 (v0.alloc (.cells (KC zeroK) 82)) at hS'
          clear hK K hS; have hS := hS'; clear hS'
          change wpAnyH _ _ _ _ _ _ _ _ (v0.alloc (.cells (KC zeroK) 82))
          generalize v0.alloc (.cells (KC zeroK) 82) = v5 at *
          generalize v0.heap.size = g9 at *
          clear v0
          try simp only [Act.put, List.setIfInBounds_toArray, List.set_cons_zero, List.set_cons_succ]
          refine wpAnyH_ready (rs := [14]) (by kernel_rfl) (by simp) ?_
          refine held_cons rfl (fun K hK => ?_) AllReadyH.nil
          go_simp
          refine hK.out _ _ (hS.alloc hS.size _) (fun hS' => ?_)
          have n8 := Row.new v5 82 (KC zeroK)
          replace n9 := n9.alloc (.cells (KC zeroK) 82)
          have q8 : w1.heap.size ≤ v5.heap.size := hS.size
          have hne : v5.heap.size ≠ g9 := Nat.ne_of_gt lt9
          have lt8 : v5.heap.size < (v5.alloc (.cells (KC zeroK) 82)).heap.size := by simp
          replace lt9 : g9 < (v5.alloc (.cells (KC zeroK) 82)).heap.size := by simp; omega
          change Below w1.heap.size w1 (v5.alloc (.cells (KC zeroK) 82)) at hS'
          clear hK K hS; have hS := hS'; clear hS'
          change wpAnyH _ _ _ _ _ _ _ _ (v5.alloc (.cells (KC zeroK) 82))
          generalize v5.alloc (.cells (KC zeroK) 82) = v6 at *
          generalize v5.heap.size = g8 at *
          clear v5
          try simp only [Act.put, List.setIfInBounds_toArray, List.set_cons_zero, List.set_cons_succ]
          refine wpAnyH_ready (rs := [16]) (by kernel_rfl) (by simp) ?_
          refine held_cons rfl (fun K hK => ?_) AllReadyH.nil
          rw [if_pos (by rfl)]
          refine wp_store_rowH 82 _ _ rfl g8 rfl n8 rfl rfl (by intro v hv; simp [KC] at hv; rcases hv with rfl | rfl | rfl <;> rfl) (by kernel_rfl) ?_
          refine hK.out _ _ (below_setRow hS q8 _) (fun hS' => ?_)
          replace n9 := n9.setRowOther (KC (a0, a1, a2)) (Ne.symm hne)
          replace n8 := n8.setRow (KC (a0, a1, a2))
          have lt8' := n8.lt
          have lt9' := n9.lt
          clear lt8; have lt8 := lt8'; clear lt8'
          clear lt9; have lt9 := lt9'; clear lt9'
          clear hK K hS; have hS := hS'; clear hS'
          generalize v6.setRow g8 (KC (a0, a1, a2)) = v7 at *
          clear v6
          try simp only [Act.put, List.setIfInBounds_toArray, List.set_cons_zero, List.set_cons_succ]
          refine wpAnyH_ready (rs := [17]) (by kernel_rfl) (by simp) ?_
          refine held_cons rfl (fun K hK => ?_) AllReadyH.nil
          rw [if_pos (by rfl)]
          refine wp_store_rowH 82 _ _ rfl g9 rfl n9 rfl rfl (by intro v hv; simp [KC] at hv; rcases hv with rfl | rfl | rfl <;> rfl) (by kernel_rfl) ?_
          refine hK.out _ _ (below_setRow hS q9 _) (fun hS' => ?_)
          replace n8 := n8.setRowOther (KC (a0, a1, a2)) hne
          replace n9 := n9.setRow (KC (a0, a1, a2))
          try simp only [Act.put, List.setIfInBounds_toArray, List.set_cons_zero, List.set_cons_succ]
          refine wpAnyH_done (by kernel_rfl) ⟨rfl, g8, g9, ?_, n8, n9, hS', q8, q9⟩ _
          exact rfl
        case' kreg2 =>
          intro g8 g9 w2 ⟨n8, n9, hS, q8, q9⟩
          replace r6 := r6.below hS r6.lt
          replace hb := grown_below hb hS hb.size
          have x1 : w2.cell? ⟨g8, 1, none⟩ = some (.int .i8 a1) := n8.cell 1
          have x2 : w2.cell? ⟨g8, 2, none⟩ = some (.int .i8 a2) := n8.cell 2
          go_wp2_with (first | (refine wpList_load_row rfl 82 _ rfl _ rfl _ _ _ _ n8 Tryd.underlying82 rfl (by kernel_rfl) ?_) | (refine wpList_load_row rfl 82 _ rfl _ rfl _ _ _ _ n9 Tryd.underlying82 rfl (by kernel_rfl) ?_) | (refine wpList_store_row rfl 82 _ _ rfl _ rfl r6 rfl rfl (by intro v hv; simp at hv; rcases hv with rfl | rfl | rfl <;> rfl) (by kernel_rfl) ?_))
          have r7 := r6.setRow (KC (t, a1, a2))
          refine bodyPost_ret_row (p := 6) (ty := 82) (cs := KC (t, a1, a2)) rfl rfl r7 Tryd.underlying82 rfl (by kernel_rfl) rfl ⟨by rw [HP.out], below_setRow hb (Nat.le_refl _) _⟩
      have hend : k < L.length := by omega
      obtain ⟨i, hik⟩ : ∃ i, k = i + 1 := ⟨k - 1, by omega⟩
      have hn' : nxt L t = i + 1 := by omega
      have hen' : i + 1 < L.length := by omega
      have hpl := plK_mid (e := ea) hn' hen'
      have hsg := seg_share hn' hen'
      have hsb := shareI_bounds (e := ea) ⟨hsg.1, hsg.2.1⟩ hsg.2.2
      rw [← hik] at hpl hsg hsb
      have hi1 : k - 1 = i := by omega
      rw [show min k (L.length - 1) = k by omega] at gd qd e4 hk2
      rw [hi1] at ga qa e2 hk1
      have g0 := gd
      have c0 := ky_cell0 g0
      have hnt : t < (kAt L k).1 := by have := nxt_hi L t (by omega); rwa [hn] at this
      have HP := Lib.hid hpl
      have cH := fun w => shareOf_any ea (t - (kAt L i).1) ((kAt L k).1 - (kAt L i).1) w he ⟨hsg.1, hsg.2.1⟩ ⟨hsg.2.2, by omega⟩
      clear hgo hn r1 r1' HLO hpl g0 hn' hen'
      obtain ⟨a0, a1, a2, hka⟩ : ∃ a0 a1 a2, kAt L i = (a0, a1, a2) := ⟨_, _, _, rfl⟩
      obtain ⟨d0, d1, d2, hkd⟩ : ∃ d0 d1 d2, kAt L k = (d0, d1, d2) := ⟨_, _, _, rfl⟩
      rw [hka] at ga qa HP cH hsg hsb
      rw [hkd] at gd qd HP cH hsg hsb c0 hnt
      dsimp only at qa qd HP cH hsg hsb c0 hnt
      have hs1 := hsg.1
      have hs2 := hsg.2.1
      have hs3 := hsg.2.2
      have hsb1 := hsb.1
      have hsb2 := hsb.2
      have cB := fun w => between_any a0 a1 a2 d0 d1 d2 (shareI ea (t - a0) (d0 - a0)) t w qa.2.1 qa.2.2 qd.2.1 qd.2.2 hsb
      generalize shareI ea (t - a0) (d0 - a0) = sh at *
      have HX := Lib.hid (show betI a1 d1 sh = betI a1 d1 sh ∧ betI a2 d2 sh = betI a2 d2 sh from ⟨rfl, rfl⟩)
      generalize betI a1 d1 sh = X at *
      generalize betI a2 d2 sh = Y at *
      clear HX
      have f16 : IntKind.i16.wrap t = t := IntWalk.i16_in _ (by omega)
      have f1 : IntKind.i64.wrap a0 = a0 := IntWalk.i64_in _ (by omega)
      have f2 : IntKind.i16.wrap (d0 - a0) = d0 - a0 := IntWalk.i16_in _ (by omega)
      have f3 : IntKind.i64.wrap (d0 - a0) = d0 - a0 := IntWalk.i64_in _ (by omega)
      have f4 : IntKind.i64.wrap (t - a0) = t - a0 := IntWalk.i64_in _ (by omega)
      have f5 : IntKind.i64.wrap d0 = d0 := IntWalk.i64_in _ (by omega)
      have heq := fun w => run_eql_ky w (a0, a1, a2) (d0, d1, d2)
      rw [decide_eq_false (fun e => by injection e; omega)] at heq
      clear hka hkd hk0 hkl hsg hsb hik hi1
      go_wp2
      refine' wp_cut_two _ (fun g8 g9 w' => Row w' g8 82 (KC (a0, a1, a2)) ∧ Row w' g9 82 (KC (d0, d1, d2)) ∧ Below w1.heap.size w1 w' ∧ w1.heap.size ≤ g8 ∧ w1.heap.size ≤ g9) ?hreg3 ?kreg3
      case' hreg3 =>
        refine wp_region_held_drew (S := fun w' => Below w1.heap.size w1 w') (by kernel_rfl) (below_drew_refl w1) (fun hS => ?_)
        generalize w1.drew = v0 at hS ⊢
        refine held_take (i := 0) (v := ?_) rfl (by kernel_rfl) (by kernel_rfl) (by kernel_rfl) (fun _ _ _ h => nomatch h.1) (Or.inl ⟨by rfl, ?_⟩) hS ?_
        rotate_left
        · intro w hSw; go_simp; (try with_reducible rfl)
        try simp only [Act.put, List.setIfInBounds_toArray, List.set_cons_zero, List.set_cons_succ]
        refine held_take (i := 1) (v := ?_) rfl (by kernel_rfl) (by kernel_rfl) (by kernel_rfl) (fun _ _ _ h => nomatch h.1) (Or.inl ⟨by rfl, ?_⟩) hS ?_
        rotate_left
        · intro w hSw; go_simp; (try with_reducible rfl)
        try simp only [Act.put, List.setIfInBounds_toArray, List.set_cons_zero, List.set_cons_succ]
        refine held_take (i := 2) (v := ?_) rfl (by kernel_rfl) (by kernel_rfl) (by kernel_rfl) (fun _ _ _ h => nomatch h.1) (Or.inl ⟨by rfl, ?_⟩) hS ?_
        rotate_left
        · intro w hSw; go_simp; (try with_reducible rfl)
        try simp only [Act.put, List.setIfInBounds_toArray, List.set_cons_zero, List.set_cons_succ]
        refine held_take (i := 3) (v := ?_) rfl (by kernel_rfl) (by kernel_rfl) (by kernel_rfl) (fun _ _ _ h => nomatch h.1) (Or.inl ⟨by rfl, ?_⟩) hS ?_
        rotate_left
        · intro w hSw; go_simp; (try with_reducible rfl)
        try simp only [Act.put, List.setIfInBounds_toArray, List.set_cons_zero, List.set_cons_succ]
        refine held_take (i := 4) (v := ?_) rfl (by kernel_rfl) (by kernel_rfl) (by kernel_rfl) (fun _ _ _ h => nomatch h.1) (Or.inl ⟨by rfl, ?_⟩) hS ?_
        rotate_left
        · intro w hSw; go_simp; (try with_reducible rfl)
        try simp only [Act.put, List.setIfInBounds_toArray, List.set_cons_zero, List.set_cons_succ]
        refine held_take (i := 5) rfl (by kernel_rfl) (by kernel_rfl) (by kernel_rfl) (fun _ _ _ h => nomatch h.1) (yieldsIf_load_el (E := eKy) rfl 82 _ rfl _ _ rfl (a0, a1, a2) (KC (a0, a1, a2)) rfl (fun w' h => range_below ga h l1) Tryd.underlying82 rfl (by kernel_rfl)) hS ?_
        try simp only [Act.put, List.setIfInBounds_toArray, List.set_cons_zero, List.set_cons_succ]
        refine held_take (i := 6) (v := ?_) rfl (by kernel_rfl) (by kernel_rfl) (by kernel_rfl) (fun _ _ _ h => nomatch h.1) (Or.inl ⟨by rfl, ?_⟩) hS ?_
        rotate_left
        · intro w hSw; go_simp; (try with_reducible rfl)
        try simp only [Act.put, List.setIfInBounds_toArray, List.set_cons_zero, List.set_cons_succ]
        refine held_take (i := 7) (v := ?_) rfl (by kernel_rfl) (by kernel_rfl) (by kernel_rfl) (fun _ _ _ h => nomatch h.1) (Or.inl ⟨by rfl, ?_⟩) hS ?_
        rotate_left
        · intro w hSw; go_simp; (try with_reducible rfl)
        try simp only [Act.put, List.setIfInBounds_toArray, List.set_cons_zero, List.set_cons_succ]
        refine held_take (i := 8) (v := ?_) rfl (by kernel_rfl) (by kernel_rfl) (by kernel_rfl) (fun _ _ _ h => nomatch h.1) (Or.inl ⟨by rfl, ?_⟩) hS ?_
        rotate_left
        · intro w hSw; go_simp; (try with_reducible rfl)
        try simp only [Act.put, List.setIfInBounds_toArray, List.set_cons_zero, List.set_cons_succ]
        refine held_take (i := 9) (v := ?_) rfl (by kernel_rfl) (by kernel_rfl) (by kernel_rfl) (fun _ _ _ h => nomatch h.1) (Or.inl ⟨by rfl, ?_⟩) hS ?_
        rotate_left
        · intro w hSw; go_simp; (try with_reducible rfl)
        try simp only [Act.put, List.setIfInBounds_toArray, List.set_cons_zero, List.set_cons_succ]
        refine held_take (i := 10) (v := ?_) rfl (by kernel_rfl) (by kernel_rfl) (by kernel_rfl) (fun _ _ _ h => nomatch h.1) (Or.inl ⟨by rfl, ?_⟩) hS ?_
        rotate_left
        · intro w hSw; go_simp; (try with_reducible rfl)
        try simp only [Act.put, List.setIfInBounds_toArray, List.set_cons_zero, List.set_cons_succ]
        refine held_take (i := 11) (v := ?_) rfl (by kernel_rfl) (by kernel_rfl) (by kernel_rfl) (fun _ _ _ h => nomatch h.1) (Or.inl ⟨by rfl, ?_⟩) hS ?_
        rotate_left
        · intro w hSw; go_simp; (try with_reducible rfl)
        try simp only [Act.put, List.setIfInBounds_toArray, List.set_cons_zero, List.set_cons_succ]
        refine held_take (i := 12) (v := ?_) rfl (by kernel_rfl) (by kernel_rfl) (by kernel_rfl) (fun _ _ _ h => nomatch h.1) (Or.inl ⟨by rfl, ?_⟩) hS ?_
        rotate_left
        · intro w hSw; go_simp; (try with_reducible rfl)
        try simp only [Act.put, List.setIfInBounds_toArray, List.set_cons_zero, List.set_cons_succ]
        refine held_take (i := 13) rfl (by kernel_rfl) (by kernel_rfl) (by kernel_rfl) (fun _ _ _ h => nomatch h.1) (yieldsIf_load_el (E := eKy) rfl 82 _ rfl _ _ rfl (d0, d1, d2) (KC (d0, d1, d2)) rfl (fun w' h => range_below gd h l1) Tryd.underlying82 rfl (by kernel_rfl)) hS ?_
        try simp only [Act.put, List.setIfInBounds_toArray, List.set_cons_zero, List.set_cons_succ]
        refine wpAnyH_ready (rs := [14, 15]) (by kernel_rfl) (by simp) ?_
        refine held_cons rfl (fun K hK => ?_) ?_
        · go_simp
          refine hK.out _ _ (hS.alloc hS.size _) (fun hS' => ?_)
          have n8 := Row.new v0 82 (KC zeroK)
          have q8 : w1.heap.size ≤ v0.heap.size := hS.size
          have lt8 : v0.heap.size < (v0.alloc (.cells (KC zeroK) 82)).heap.size := by simp
          change Below w1.heap.size w1 (v0.alloc (.cells (KC zeroK) 82)) at hS'
          clear hK K hS; have hS := hS'; clear hS'
          change wpAnyH _ _ _ _ _ _ _ _ (v0.alloc (.cells (KC zeroK) 82))
          generalize v0.alloc (.cells (KC zeroK) 82) = v1 at *
          generalize v0.heap.size = g8 at *
          clear v0
          try simp only [Act.put, List.setIfInBounds_toArray, List.set_cons_zero, List.set_cons_succ]
          refine wpAnyH_ready (rs := [15]) (by kernel_rfl) (by simp) ?_
          refine held_cons rfl (fun K hK => ?_) AllReadyH.nil
          go_simp
          refine hK.out _ _ (hS.alloc hS.size _) (fun hS' => ?_)
          have n9 := Row.new v1 82 (KC zeroK)
          replace n8 := n8.alloc (.cells (KC zeroK) 82)
          have q9 : w1.heap.size ≤ v1.heap.size := hS.size
          have hne : g8 ≠ v1.heap.size := Nat.ne_of_lt lt8
          have lt9 : v1.heap.size < (v1.alloc (.cells (KC zeroK) 82)).heap.size := by simp
          replace lt8 : g8 < (v1.alloc (.cells (KC zeroK) 82)).heap.size := by simp; omega
          change Below w1.heap.size w1 (v1.alloc (.cells (KC zeroK) 82)) at hS'
          clear hK K hS; have hS := hS'; clear hS'
          change wpAnyH _ _ _ _ _ _ _ _ (v1.alloc (.cells (KC zeroK) 82))
          generalize v1.alloc (.cells (KC zeroK) 82) = v2 at *
          generalize v1.heap.size = g9 at *
          clear v1
          try simp only [Act.put, List.setIfInBounds_toArray, List.set_cons_zero, List.set_cons_succ]
          refine wpAnyH_ready (rs := [16]) (by kernel_rfl) (by simp) ?_
          refine held_cons rfl (fun K hK => ?_) AllReadyH.nil
          rw [if_pos (by rfl)]
          refine wp_store_rowH 82 _ _ rfl g8 rfl n8 rfl rfl (by intro v hv; simp [KC] at hv; rcases hv with rfl | rfl | rfl <;> rfl) (by kernel_rfl) ?_
          refine hK.out _ _ (below_setRow hS q8 _) (fun hS' => ?_)
          replace n9 := n9.setRowOther (KC (a0, a1, a2)) (Ne.symm hne)
          replace n8 := n8.setRow (KC (a0, a1, a2))
          have lt8' := n8.lt
          have lt9' := n9.lt
          clear lt8; have lt8 := lt8'; clear lt8'
          clear lt9; have lt9 := lt9'; clear lt9'
          clear hK K hS; have hS := hS'; clear hS'
          generalize v2.setRow g8 (KC (a0, a1, a2)) = v3 at *
          clear v2
          try simp only [Act.put, List.setIfInBounds_toArray, List.set_cons_zero, List.set_cons_succ]
          refine wpAnyH_ready (rs := [17]) (by kernel_rfl) (by simp) ?_
          refine held_cons rfl (fun K hK => ?_) AllReadyH.nil
          rw [if_pos (by rfl)]
          refine wp_store_rowH 82 _ _ rfl g9 rfl n9 rfl rfl (by intro v hv; simp [KC] at hv; rcases hv with rfl | rfl | rfl <;> rfl) (by kernel_rfl) ?_
          refine hK.out _ _ (below_setRow hS q9 _) (fun hS' => ?_)
          replace n8 := n8.setRowOther (KC (d0, d1, d2)) hne
          replace n9 := n9.setRow (KC (d0, d1, d2))
          try simp only [Act.put, List.setIfInBounds_toArray, List.set_cons_zero, List.set_cons_succ]
          refine wpAnyH_done (by kernel_rfl) ⟨rfl, g8, g9, ?_, n8, n9, hS', q8, q9⟩ _
          exact rfl
        refine held_cons rfl (fun K hK => ?_) AllReadyH.nil
        go_simp
        refine hK.out _ _ (hS.alloc hS.size _) (fun hS' => ?_)
        have n9 := Row.new v0 82 (KC zeroK)
        have q9 : w1.heap.size ≤ v0.heap.size := hS.size
        have lt9 : v0.heap.size < (v0.alloc (.cells (KC zeroK) 82)).heap.size := by simp
        change Below w1.heap.size w1 (v0.alloc (.cells (KC zeroK) 82)) at hS'
        clear hK K hS; have hS := hS'; clear hS'
        change wpAnyH _ _ _ _ _ _ _ _ (v0.alloc (.cells (KC zeroK) 82))
        generalize v0.alloc (.cells (KC zeroK) 82) = v5 at *
        generalize v0.heap.size = g9 at *
        clear v0
        try simp only [Act.put, List.setIfInBounds_toArray, List.set_cons_zero, List.set_cons_succ]
        refine wpAnyH_ready (rs := [14]) (by kernel_rfl) (by simp) ?_
        refine held_cons rfl (fun K hK => ?_) AllReadyH.nil
        go_simp
        refine hK.out _ _ (hS.alloc hS.size _) (fun hS' => ?_)
        have n8 := Row.new v5 82 (KC zeroK)
        replace n9 := n9.alloc (.cells (KC zeroK) 82)
        have q8 : w1.heap.size ≤ v5.heap.size := hS.size
        have hne : v5.heap.size ≠ g9 := Nat.ne_of_gt lt9
        have lt8 : v5.heap.size < (v5.alloc (.cells (KC zeroK) 82)).heap.size := by simp
        replace lt9 : g9 < (v5.alloc (.cells (KC zeroK) 82)).heap.size := by simp; omega
        change Below w1.heap.size w1 (v5.alloc (.cells (KC zeroK) 82)) at hS'
        clear hK K hS; have hS := hS'; clear hS'
        change wpAnyH _ _ _ _ _ _ _ _ (v5.alloc (.cells (KC zeroK) 82))
        generalize v5.alloc (.cells (KC zeroK) 82) = v6 at *
        generalize v5.heap.size = g8 at *
        clear v5
        try simp only [Act.put, List.setIfInBounds_toArray, List.set_cons_zero, List.set_cons_succ]
        refine wpAnyH_ready (rs := [16]) (by kernel_rfl) (by simp) ?_
        refine held_cons rfl (fun K hK => ?_) AllReadyH.nil
        rw [if_pos (by rfl)]
        refine wp_store_rowH 82 _ _ rfl g8 rfl n8 rfl rfl (by intro v hv; simp [KC] at hv; rcases hv with rfl | rfl | rfl <;> rfl) (by kernel_rfl) ?_
        refine hK.out _ _ (below_setRow hS q8 _) (fun hS' => ?_)
        replace n9 := n9.setRowOther (KC (a0, a1, a2)) (Ne.symm hne)
        replace n8 := n8.setRow (KC (a0, a1, a2))
        have lt8' := n8.lt
        have lt9' := n9.lt
        clear lt8; have lt8 := lt8'; clear lt8'
        clear lt9; have lt9 := lt9'; clear lt9'
        clear hK K hS; have hS := hS'; clear hS'
        generalize v6.setRow g8 (KC (a0, a1, a2)) = v7 at *
        clear v6
        try simp only [Act.put, List.setIfInBounds_toArray, List.set_cons_zero, List.set_cons_succ]
        refine wpAnyH_ready (rs := [17]) (by kernel_rfl) (by simp) ?_
        refine held_cons rfl (fun K hK => ?_) AllReadyH.nil
        rw [if_pos (by rfl)]
        refine wp_store_rowH 82 _ _ rfl g9 rfl n9 rfl rfl (by intro v hv; simp [KC] at hv; rcases hv with rfl | rfl | rfl <;> rfl) (by kernel_rfl) ?_
        refine hK.out _ _ (below_setRow hS q9 _) (fun hS' => ?_)
        replace n8 := n8.setRowOther (KC (d0, d1, d2)) hne
        replace n9 := n9.setRow (KC (d0, d1, d2))
        try simp only [Act.put, List.setIfInBounds_toArray, List.set_cons_zero, List.set_cons_succ]
        refine wpAnyH_done (by kernel_rfl) ⟨rfl, g8, g9, ?_, n8, n9, hS', q8, q9⟩ _
        exact rfl
      case' kreg3 =>
        intro g8 g9 w2 ⟨n8, n9, hS, q8, q9⟩
        replace r6 := r6.below hS r6.lt
        replace hb := grown_below hb hS hb.size
        have x0 : w2.cell? ⟨g8, 0, none⟩ = some (.int .i16 a0) := n8.cell 0
        have y0 : w2.cell? ⟨g9, 0, none⟩ = some (.int .i16 d0) := n9.cell 0
        go_wp2_with (first | (refine wpList_load_row rfl 82 _ rfl _ rfl _ _ _ _ n8 Tryd.underlying82 rfl (by kernel_rfl) ?_) | (refine wpList_load_row rfl 82 _ rfl _ rfl _ _ _ _ n9 Tryd.underlying82 rfl (by kernel_rfl) ?_) | (go_at_call 124; refine (cH _).mono ?_; rintro r w3 ⟨rfl, hb3⟩; replace n8 := n8.below hb3 n8.lt; replace n9 := n9.below hb3 n9.lt; replace r6 := r6.below hb3 r6.lt; replace hb := grown_below hb hb3 hb.size; clear hb3 cH x0 y0) | (go_at_call 125; refine (cB _).mono ?_; rintro r w4 ⟨rfl, hb4⟩; replace r6 := r6.below hb4 r6.lt; replace hb := grown_below hb hb4 hb.size; clear hb4 cB n8 n9) | (refine wpList_store_row rfl 82 _ _ rfl _ rfl r6 rfl rfl (by intro v hv; simp [KC] at hv; rcases hv with rfl | rfl | rfl <;> rfl) (by kernel_rfl) ?_))
        have r7 := r6.setRow (KC (t, X, Y))
        refine bodyPost_ret_row (p := 6) (ty := 82) (cs := KC (t, X, Y)) rfl rfl r7 Tryd.underlying82 rfl (by kernel_rfl) rfl ⟨by rw [HP.out], below_setRow hb (Nat.le_refl _) _⟩
end Go.Proofs.YtajlkleoincoeacDoor

/- THE SENTINELS: the five error variables of chapter 3; errors.Is at them; codeOf. -/
namespace Go.Proofs.YtajlkleoincoeacDoor
set_option maxRecDepth 100000
open Go.RowKit Go.Extern
set_option linter.unusedVariables false
set_option linter.unusedSimpArgs false
/-- The variable of a code, less 1. -/
def sG : Nat → Nat
  | 0 => 0
  | 1 => 1
  | 2 => 2
  | 3 => 3
  | _ => 4
/-- The five variables hold five pointers. -/
structure Sent (w : World) (a : Nat → Addr) : Prop where
  var : ∀ i, i < 5 → w.cell? ⟨sG i, 0, none⟩ = some (.iface 230 (.pointer (some (a i))))
  row : ∀ i, i < 5 → ∃ c t, w.heap[(a i).block]? = some (.cells c t (0, 0))
  ne : ∀ i j, i < 5 → j < 5 → i ≠ j → a i ≠ a j
theorem Sent.below {w w' : World} {a : Nat → Addr} (h : Sent w a) (hb : Below w.heap.size w w') : Sent w' a := by
  refine ⟨fun i hi => ?_, fun i hi => ?_, h.ne⟩
  · have hc := h.var i hi
    have hl := World.block_lt_of_cell? w _ hc
    rw [World.cell?_of_block (w := w) (hb.block _ hl)]
    exact hc
  · obtain ⟨c, t, hr⟩ := h.row i hi
    have hl : (a i).block < w.heap.size := (Array.getElem?_eq_some_iff.1 hr).1
    exact ⟨c, t, (hb.block _ hl).trans hr⟩
/-- The error of a code. -/
def errV (a : Nat → Addr) (c : Int) : Value := if c = 0 then .nilIface else .iface 230 (.pointer (some (a (c.toNat - 1))))
theorem isComp : (Tryd.prog.info? 230).map (·.comparable) = some true := by kernel_rfl
theorem isSize : (Tryd.prog.info? 232).map (·.size) = some 1 := by kernel_rfl
theorem isNoIs (v : Value) (xT : TypeId) (w : World) : (Instr.typeAssert (.iface 230 v) xT 187 true).run Tryd.prog w = .ok (.tuple #[.nilIface, .bool false]) w := run_typeAssert_lacksB Tryd.underlying187 (by kernel_rfl) (by kernel_rfl) v xT w
theorem isNoUnwrap (v : Value) (xT : TypeId) (w : World) : (Instr.typeAssert (.iface 230 v) xT 190 true).run Tryd.prog w = .ok (.tuple #[.nilIface, .bool false]) w := run_typeAssert_lacksB Tryd.underlying190 (by kernel_rfl) (by kernel_rfl) v xT w
theorem isNoUnwraps (v : Value) (xT : TypeId) (w : World) : (Instr.typeAssert (.iface 230 v) xT 192 true).run Tryd.prog w = .ok (.tuple #[.nilIface, .bool false]) w := run_typeAssert_lacksB Tryd.underlying192 (by kernel_rfl) (by kernel_rfl) v xT w
noncomputable def errN : Nat := Tryd.prog.globals.size
theorem isTypeOf (v : Value) (w : World) : (Extern.ReflectliteType.typeOf #[.iface 230 v]).run Tryd.prog w = .ok (.iface 185 (.agg #[.pointer (some ⟨errN, 230, none⟩)])) w := by kernel_rfl
/-- What the library's Comparable of a type is. -/
noncomputable def cmpX : Array Value → Sem Value := (Go.Extern.find Tryd.f203).getD (fun _ => pure (.bool false))
theorem cmpX_find : Go.Extern.find Tryd.f203 = some cmpX := by kernel_rfl
theorem isComparable (w : World) : (cmpX #[.agg #[.pointer (some ⟨errN, 230, none⟩)]]).run Tryd.prog w = .ok (.bool true) w := by kernel_rfl
theorem isMethod (v : Value) (w : World) : (Go.method 365 185 v "Comparable").run Tryd.prog w = .ok (203, v) w := by kernel_rfl
theorem errIn_same (a : Addr) (w : World) :
    Calls Tryd.prog 123 #[.iface 230 (.pointer (some a)), .iface 230 (.pointer (some a)), .bool true] w fun e w' => e = .returned (.bool true) ∧ w = w' := by
  obtain ⟨i, hi, hcmp⟩ := Option.map_eq_some_iff.1 isComp
  obtain ⟨j, hj, hjs⟩ := Option.map_eq_some_iff.1 isSize
  have heq := run_eql_iface_ptr_same (P := Tryd.prog) w a Tryd.underlying75 Tryd.underlying230 hi hcmp hj
  go_enter Tryd.func123, Tryd.ntmps123
  go_wp2
  refine wp_loop_rounds 1 ?_
  rw [rounds_succ]
  go_wp2
  go_ret
  exact ⟨rfl, rfl⟩
theorem errIn_other (a b : Addr) (ca cb : Array Value) (ta tb : TypeId) (w : World) (hne : a ≠ b) (ha : w.heap[a.block]? = some (.cells ca ta (0, 0))) (hb : w.heap[b.block]? = some (.cells cb tb (0, 0))) :
    Calls Tryd.prog 123 #[.iface 230 (.pointer (some a)), .iface 230 (.pointer (some b)), .bool true] w fun e w' => e = .returned (.bool false) ∧ w = w' := by
  obtain ⟨i, hi, hcmp⟩ := Option.map_eq_some_iff.1 isComp
  obtain ⟨j, hj, hjs⟩ := Option.map_eq_some_iff.1 isSize
  have heq := run_eql_iface_ptr_other (P := Tryd.prog) w Tryd.underlying75 Tryd.underlying230 hi hcmp hj (by rw [hjs]; decide) hne ha hb
  have nI := isNoIs
  have nU := isNoUnwrap
  have nV := isNoUnwraps
  go_enter Tryd.func123, Tryd.ntmps123
  go_wp2
  refine wp_loop_rounds 1 ?_
  rw [rounds_succ]
  go_wp2
  go_ret
  exact ⟨rfl, rfl⟩
theorem errIs_same (a : Addr) (w : World) :
    Calls Tryd.prog 87 #[.iface 230 (.pointer (some a)), .iface 230 (.pointer (some a))] w fun e w' => e = .returned (.bool true) ∧ w = w' := by
  have h8 := @run_callFunc_extern Tryd.prog 122 _ Extern.ReflectliteType.typeOf Tryd.func122 (by kernel_rfl) (by kernel_rfl) (by kernel_rfl) (by kernel_rfl)
  have h32 := @run_callFunc_extern Tryd.prog 203 _ cmpX Tryd.func203 (by kernel_rfl) (by kernel_rfl) (by kernel_rfl) cmpX_find
  have mR := isMethod
  have tT := isTypeOf
  have cT := isComparable
  go_enter Tryd.func87, Tryd.ntmps87
  go_wp2_with (go_at_call 123; refine (errIn_same _ _).mono ?_; rintro e w' ⟨rfl, rfl⟩)
  go_ret
  exact ⟨rfl, rfl⟩
theorem errIs_other (a b : Addr) (ca cb : Array Value) (ta tb : TypeId) (w : World) (hne : a ≠ b) (ha : w.heap[a.block]? = some (.cells ca ta (0, 0))) (hb : w.heap[b.block]? = some (.cells cb tb (0, 0))) :
    Calls Tryd.prog 87 #[.iface 230 (.pointer (some a)), .iface 230 (.pointer (some b))] w fun e w' => e = .returned (.bool false) ∧ w = w' := by
  have h8 := @run_callFunc_extern Tryd.prog 122 _ Extern.ReflectliteType.typeOf Tryd.func122 (by kernel_rfl) (by kernel_rfl) (by kernel_rfl) (by kernel_rfl)
  have h32 := @run_callFunc_extern Tryd.prog 203 _ cmpX Tryd.func203 (by kernel_rfl) (by kernel_rfl) (by kernel_rfl) cmpX_find
  have mR := isMethod
  have tT := isTypeOf
  have cT := isComparable
  have HO := Lib.hid (errIn_other a b ca cb ta tb w hne ha hb)
  clear hne ha hb
  go_enter Tryd.func87, Tryd.ntmps87
  go_wp2_with (go_at_call 123; refine HO.out.mono ?_; rintro e w' ⟨rfl, rfl⟩)
  go_ret
  exact ⟨rfl, rfl⟩
theorem errIs_nil (b : Addr) (w : World) :
    Calls Tryd.prog 87 #[.nilIface, .iface 230 (.pointer (some b))] w fun e w' => e = .returned (.bool false) ∧ w = w' := by
  have hn := run_eql_iface_nil_left (P := Tryd.prog) w 230 (.pointer (some b)) Tryd.underlying75
  go_enter Tryd.func87, Tryd.ntmps87
  go_wp2
  go_ret
  exact ⟨rfl, rfl⟩
theorem Sent.other {w : World} {a : Nat → Addr} (h : Sent w a) {i j : Nat} (hi : i < 5) (hj : j < 5) (hij : i ≠ j) :
    Calls Tryd.prog 87 #[.iface 230 (.pointer (some (a i))), .iface 230 (.pointer (some (a j)))] w fun e w' => e = .returned (.bool false) ∧ w = w' := by
  obtain ⟨c, t, hr⟩ := h.row i hi
  obtain ⟨d, u, hs⟩ := h.row j hj
  exact errIs_other _ _ _ _ _ _ w (h.ne i j hi hj hij) hr hs
set_option maxHeartbeats 4000000 in
theorem codeOf_any (c : Int) (a : Nat → Addr) (w : World) (h : Sent w a) (hc : 0 ≤ c ∧ c ≤ 5) :
    Calls Tryd.prog 44 #[errV a c] w fun e w' => e = .returned (.int .i64 c) ∧ w = w' := by
  have v0 : w.cell? ⟨0, 0, none⟩ = some (.iface 230 (.pointer (some (a 0)))) := h.var 0 (by decide)
  have v1 : w.cell? ⟨1, 0, none⟩ = some (.iface 230 (.pointer (some (a 1)))) := h.var 1 (by decide)
  have v2 : w.cell? ⟨2, 0, none⟩ = some (.iface 230 (.pointer (some (a 2)))) := h.var 2 (by decide)
  have v3 : w.cell? ⟨3, 0, none⟩ = some (.iface 230 (.pointer (some (a 3)))) := h.var 3 (by decide)
  have v4 : w.cell? ⟨4, 0, none⟩ = some (.iface 230 (.pointer (some (a 4)))) := h.var 4 (by decide)
  have hcs : c = 0 ∨ c = 1 ∨ c = 2 ∨ c = 3 ∨ c = 4 ∨ c = 5 := by omega
  clear hc
  rcases hcs with rfl | rfl | rfl | rfl | rfl | rfl
  · change Calls Tryd.prog 44 #[.nilIface] w _
    clear h
    go_enter Tryd.func44, Tryd.ntmps44
    go_wp2_with (go_at_call 87; refine (errIs_nil _ _).mono ?_; rintro e w' ⟨rfl, rfl⟩)
    go_ret
    exact ⟨rfl, rfl⟩
  · change Calls Tryd.prog 44 #[.iface 230 (.pointer (some (a 0)))] w _
    clear h
    go_enter Tryd.func44, Tryd.ntmps44
    go_wp2_with (go_at_call 87; first | (refine (errIs_same (a 0) _).mono ?_; rintro e w' ⟨rfl, rfl⟩))
    go_ret
    exact ⟨rfl, rfl⟩
  · change Calls Tryd.prog 44 #[.iface 230 (.pointer (some (a 1)))] w _
    have o0 := h.other (i := 1) (j := 0) (by decide) (by decide) (by decide)
    clear h
    go_enter Tryd.func44, Tryd.ntmps44
    go_wp2_with (go_at_call 87; first | (refine o0.mono ?_; rintro e w' ⟨rfl, rfl⟩; clear o0) | (refine (errIs_same (a 1) _).mono ?_; rintro e w' ⟨rfl, rfl⟩))
    go_ret
    exact ⟨rfl, rfl⟩
  · change Calls Tryd.prog 44 #[.iface 230 (.pointer (some (a 2)))] w _
    have o0 := h.other (i := 2) (j := 0) (by decide) (by decide) (by decide)
    have o1 := h.other (i := 2) (j := 1) (by decide) (by decide) (by decide)
    clear h
    go_enter Tryd.func44, Tryd.ntmps44
    go_wp2_with (go_at_call 87; first | (refine o0.mono ?_; rintro e w' ⟨rfl, rfl⟩; clear o0) | (refine o1.mono ?_; rintro e w' ⟨rfl, rfl⟩; clear o1) | (refine (errIs_same (a 2) _).mono ?_; rintro e w' ⟨rfl, rfl⟩))
    go_ret
    exact ⟨rfl, rfl⟩
  · change Calls Tryd.prog 44 #[.iface 230 (.pointer (some (a 3)))] w _
    have o0 := h.other (i := 3) (j := 0) (by decide) (by decide) (by decide)
    have o1 := h.other (i := 3) (j := 1) (by decide) (by decide) (by decide)
    have o2 := h.other (i := 3) (j := 2) (by decide) (by decide) (by decide)
    clear h
    go_enter Tryd.func44, Tryd.ntmps44
    go_wp2_with (go_at_call 87; first | (refine o0.mono ?_; rintro e w' ⟨rfl, rfl⟩; clear o0) | (refine o1.mono ?_; rintro e w' ⟨rfl, rfl⟩; clear o1) | (refine o2.mono ?_; rintro e w' ⟨rfl, rfl⟩; clear o2) | (refine (errIs_same (a 3) _).mono ?_; rintro e w' ⟨rfl, rfl⟩))
    go_ret
    exact ⟨rfl, rfl⟩
  · change Calls Tryd.prog 44 #[.iface 230 (.pointer (some (a 4)))] w _
    have o0 := h.other (i := 4) (j := 0) (by decide) (by decide) (by decide)
    have o1 := h.other (i := 4) (j := 1) (by decide) (by decide) (by decide)
    have o2 := h.other (i := 4) (j := 2) (by decide) (by decide) (by decide)
    have o3 := h.other (i := 4) (j := 3) (by decide) (by decide) (by decide)
    clear h
    go_enter Tryd.func44, Tryd.ntmps44
    go_wp2_with (go_at_call 87; first | (refine o0.mono ?_; rintro e w' ⟨rfl, rfl⟩; clear o0) | (refine o1.mono ?_; rintro e w' ⟨rfl, rfl⟩; clear o1) | (refine o2.mono ?_; rintro e w' ⟨rfl, rfl⟩; clear o2) | (refine o3.mono ?_; rintro e w' ⟨rfl, rfl⟩; clear o3) | (refine (errIs_same (a 4) _).mono ?_; rintro e w' ⟨rfl, rfl⟩))
    go_ret
    exact ⟨rfl, rfl⟩
end Go.Proofs.YtajlkleoincoeacDoor

/- impl: checkWay, PlaceAt. -/
namespace Go.Proofs.YtajlkleoincoeacDoor
open Go.RowKit
set_option linter.unusedVariables false
set_option linter.unusedSimpArgs false
theorem errV1 (a : Nat → Addr) : errV a 1 = .iface 230 (.pointer (some (a 0))) := rfl
theorem errV2 (a : Nat → Addr) : errV a 2 = .iface 230 (.pointer (some (a 1))) := rfl
theorem errV3 (a : Nat → Addr) : errV a 3 = .iface 230 (.pointer (some (a 2))) := rfl
theorem errV4 (a : Nat → Addr) : errV a 4 = .iface 230 (.pointer (some (a 3))) := rfl
theorem errV0 (a : Nat → Addr) : errV a 0 = .nilIface := rfl
theorem Sent.var0 {w : World} {a : Nat → Addr} (h : Sent w a) : w.cell? ⟨0, 0, none⟩ = some (.iface 230 (.pointer (some (a 0)))) := h.var 0 (by decide)
theorem Sent.var1 {w : World} {a : Nat → Addr} (h : Sent w a) : w.cell? ⟨1, 0, none⟩ = some (.iface 230 (.pointer (some (a 1)))) := h.var 1 (by decide)
theorem Sent.var2 {w : World} {a : Nat → Addr} (h : Sent w a) : w.cell? ⟨2, 0, none⟩ = some (.iface 230 (.pointer (some (a 2)))) := h.var 2 (by decide)
theorem Sent.var3 {w : World} {a : Nat → Addr} (h : Sent w a) : w.cell? ⟨3, 0, none⟩ = some (.iface 230 (.pointer (some (a 3)))) := h.var 3 (by decide)
end Go.Proofs.YtajlkleoincoeacDoor

/- impl: isPlace, placeIn, Frame.has, Frame.with. -/
namespace Go.Proofs.YtajlkleoincoeacDoor
open Go.RowKit
/-- What placeIn returns beside it. -/
def dotV (x y : Int) : Value := .agg #[.int .i8 x, .int .i8 y]
def placeV (f : Nat → Nat) (x y : Int) : Value := if askF f x y = 0 then dotV x y else dotV 0 0
end Go.Proofs.YtajlkleoincoeacDoor
