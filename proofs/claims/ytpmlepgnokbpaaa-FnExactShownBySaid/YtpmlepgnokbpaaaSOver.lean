/- spec: l05Over. -/
import Derived.Test.YtpmlepgnokbpaaaRows
import Derived.Test.YtpmlepgnokbpaaaCel0
import Derived.Test.YtpmlepgnokbpaaaCelM
import Derived.Test.YtpmlepgnokbpaaaLessAt
import Derived.Test.YtpmlepgnokbpaaaJoinAt
import Derived.Test.YtpmlepgnokbpaaaSBook
import Derived.Test.YtpmlepgnokbpaaaHeld
import Derived.Test.YtpmlepgnokbpaaaHeld2
namespace Go.Proofs.Ytpmlepgnokbpaaa
set_option maxRecDepth 100000
open Go.RowKit
set_option linter.unusedVariables false
set_option linter.unusedSimpArgs false
set_option maxHeartbeats 2000000 in
theorem specOver_any (b o b2 o2 : Nat) (i k i2 k2 : Nat → Nat) (hi : ∀ y, i y < 65536) (hk : ∀ y, k y < 65536) (hi2 : ∀ y, i2 y < 65536) (hk2 : ∀ y, k2 y < 65536) (w : World) (h : CelIn w b o i k) (lb : b < w.heap.size) (h2 : CelIn w b2 o2 i2 k2) (lb2 : b2 < w.heap.size) :
    Calls Try.prog 70 #[.pointer (some ⟨b, o, none⟩), .pointer (some ⟨b2, o2, none⟩)] w fun e' w' => e' = .returned (.agg (CC (ovI i k i2) (joinF k k2))) ∧ Below w.heap.size w w' := by
  have r := CelAt.new w 29 zeroF zeroF
  have h0 := (Below.refl w.heap.size w).alloc (Nat.le_refl _) (.cells (CC zeroF zeroF) 29)
  have hA := h.below h0 lb
  have hB := h2.below h0 lb2
  have lA := Nat.lt_of_lt_of_le lb h0.size
  have lB := Nat.lt_of_lt_of_le lb2 h0.size
  have hbl := build_cel (ovI i k i2) (joinF k k2)
  rw [CC_zero] at r h0 hA hB lA lB
  clear h h2
  go_enter Try.func70, Try.ntmps70
  go_wp2_with fail
  generalize (w.alloc _) = w0 at *
  have cL := fun w' (hb : Below w0.heap.size w0 w') => specLessAt_any b2 o2 b (o + 12) i2 k hi2 hk w' (range_below hB.ink hb lB) (Nat.lt_of_lt_of_le lB hb.size) (range_below hA.cov hb lA) (Nat.lt_of_lt_of_le lA hb.size)
  refine' wp_cut_blk _ (fun g w' => Blk w' g 27 (lessF i2 k) ∧ Below w0.heap.size w0 w' ∧ w0.heap.size ≤ g) ?hw0 ?kw0
  case' hw0 =>
    refine wp_region_held_drew (S := fun w' => Below w0.heap.size w0 w') (by kernel_rfl) (below_drew_refl w0) (fun hS => ?_)
    generalize w0.drew = v0 at hS ⊢
    refine held_take (i := 0) (v := ?_) rfl (by kernel_rfl) (by kernel_rfl) (by kernel_rfl) (fun _ _ _ h => nomatch h.1) (Or.inl ⟨by rfl, ?_⟩) hS ?_
    rotate_left
    · intro w hSw; go_simp; (try with_reducible rfl)
    try simp only [Act.put, List.setIfInBounds_toArray, List.set_cons_zero, List.set_cons_succ]
    refine held_take (i := 1) (v := ?_) rfl (by kernel_rfl) (by kernel_rfl) (by kernel_rfl) (fun _ _ _ h => nomatch h.1) (Or.inl ⟨by rfl, ?_⟩) hS ?_
    rotate_left
    · intro w hSw; go_simp; (try with_reducible rfl)
    try simp only [Act.put, List.setIfInBounds_toArray, List.set_cons_zero, List.set_cons_succ]
    refine held_take (i := 2) (v := ?_) rfl (by kernel_rfl) (by kernel_rfl) (by kernel_rfl) (fun _ _ _ h => nomatch h.1) (Or.inl ⟨by rfl, ?_⟩) hS ?_
    rotate_left
    · intro w hSw; go_simp; (try with_reducible rfl)
    try simp only [Act.put, List.setIfInBounds_toArray, List.set_cons_zero, List.set_cons_succ]
    refine held_take (i := 3) (v := ?_) rfl (by kernel_rfl) (by kernel_rfl) (by kernel_rfl) (fun _ _ _ h => nomatch h.1) (Or.inl ⟨by rfl, ?_⟩) hS ?_
    rotate_left
    · intro w hSw; go_simp; (try with_reducible rfl)
    try simp only [Act.put, List.setIfInBounds_toArray, List.set_cons_zero, List.set_cons_succ]
    refine held_take (i := 4) (v := ?_) rfl (by kernel_rfl) (by kernel_rfl) (by kernel_rfl) (fun _ _ _ h => nomatch h.1) (Or.inl ⟨by rfl, ?_⟩) hS ?_
    rotate_left
    · intro w hSw; go_simp; (try with_reducible rfl)
    try simp only [Act.put, List.setIfInBounds_toArray, List.set_cons_zero, List.set_cons_succ]
    refine held_take (i := 5) (v := ?_) rfl (by kernel_rfl) (by kernel_rfl) (by kernel_rfl) (fun _ _ _ h => nomatch h.1) (Or.inl ⟨by rfl, ?_⟩) hS ?_
    rotate_left
    · intro w hSw; go_simp; (try with_reducible rfl)
    try simp only [Act.put, List.setIfInBounds_toArray, List.set_cons_zero, List.set_cons_succ]
    refine wpAnyH_ready (rs := [6, 7]) (by kernel_rfl) (by simp) ?_
    refine held_cons rfl (fun K hK => ?_) ?_
    ·
      go_simp
      go_at_call 92
      refine (cL _ hS).mono ?_
      rintro e v1 ⟨rfl, hb1⟩
      refine hK.out _ _ (grown_below hS hb1 hS.size) (fun hS' => ?_)
      clear hK K hS hb1; have hS := hS'; clear hS'; clear v0
      try simp only [Act.put, List.setIfInBounds_toArray, List.set_cons_zero, List.set_cons_succ]
      refine wpAnyH_ready (rs := [7]) (by kernel_rfl) (by simp) ?_
      refine held_cons rfl (fun K hK => ?_) AllReadyH.nil
      go_simp
      refine hK.out _ _ (hS.alloc hS.size _) (fun hS' => ?_)
      have bn := Blk.new v1 27 zeroF
      rw [FC_zero] at bn
      have hg : w0.heap.size ≤ v1.heap.size := hS.size
      clear hK K hS; have hS := hS'; clear hS'
      generalize v1.alloc (.cells #[.int .u16 0, .int .u16 0, .int .u16 0, .int .u16 0, .int .u16 0, .int .u16 0, .int .u16 0, .int .u16 0, .int .u16 0, .int .u16 0, .int .u16 0, .int .u16 0] 27) = v2 at hS bn ⊢
      generalize v1.heap.size = g at hg bn ⊢
      clear v1
      try simp only [Act.put, List.setIfInBounds_toArray, List.set_cons_zero, List.set_cons_succ]
      refine wpAnyH_ready (rs := [8]) (by kernel_rfl) (by simp) ?_
      refine held_cons rfl (fun K hK => ?_) AllReadyH.nil
      rw [if_pos (by rfl)]
      refine wp_store_fr 27 _ _ rfl g rfl bn rfl (by kernel_rfl) ?_
      refine hK.out _ _ (below_setRow hS hg _) (fun hS' => ?_)
      replace bn := bn.setRow (lessF i2 k)
      clear hK K
      try simp only [Act.put, List.setIfInBounds_toArray, List.set_cons_zero, List.set_cons_succ]
      refine wpAnyH_done (by kernel_rfl) ⟨rfl, g, ?_, bn, hS', hg⟩ _
      exact rfl
    refine held_cons rfl (fun K hK => ?_) AllReadyH.nil
    go_simp
    refine hK.out _ _ (hS.alloc hS.size _) (fun hS' => ?_)
    have bn := Blk.new v0 27 zeroF
    rw [FC_zero] at bn
    have hg : w0.heap.size ≤ v0.heap.size := hS.size
    clear hK K hS; have hS := hS'; clear hS'
    generalize v0.alloc (.cells #[.int .u16 0, .int .u16 0, .int .u16 0, .int .u16 0, .int .u16 0, .int .u16 0, .int .u16 0, .int .u16 0, .int .u16 0, .int .u16 0, .int .u16 0, .int .u16 0] 27) = v1 at hS bn ⊢
    generalize v0.heap.size = g at hg bn ⊢
    clear v0
    try simp only [Act.put, List.setIfInBounds_toArray, List.set_cons_zero, List.set_cons_succ]
    refine wpAnyH_ready (rs := [6]) (by kernel_rfl) (by simp) ?_
    refine held_cons rfl (fun K hK => ?_) AllReadyH.nil
    go_simp
    go_at_call 92
    refine (cL _ hS).mono ?_
    rintro e v2 ⟨rfl, hb1⟩
    refine hK.out _ _ (grown_below hS hb1 hS.size) (fun hS' => ?_)
    replace bn := bn.below hb1 bn.lt
    clear hK K hS hb1; have hS := hS'; clear hS'; clear v1
    try simp only [Act.put, List.setIfInBounds_toArray, List.set_cons_zero, List.set_cons_succ]
    refine wpAnyH_ready (rs := [8]) (by kernel_rfl) (by simp) ?_
    refine held_cons rfl (fun K hK => ?_) AllReadyH.nil
    rw [if_pos (by rfl)]
    refine wp_store_fr 27 _ _ rfl g rfl bn rfl (by kernel_rfl) ?_
    refine hK.out _ _ (below_setRow hS hg _) (fun hS' => ?_)
    replace bn := bn.setRow (lessF i2 k)
    clear hK K
    try simp only [Act.put, List.setIfInBounds_toArray, List.set_cons_zero, List.set_cons_succ]
    refine wpAnyH_done (by kernel_rfl) ⟨rfl, g, ?_, bn, hS', hg⟩ _
    exact rfl
  rintro g w1 ⟨bn, hb, hg⟩
  replace r := r.below hb r.lt
  replace hA := hA.below hb lA
  replace hB := hB.below hb lB
  replace lA := Nat.lt_of_lt_of_le lA hb.size
  replace lB := Nat.lt_of_lt_of_le lB hb.size
  replace h0 := grown_below h0 hb h0.size
  have rn := bn.range
  have ln := bn.lt
  clear hb cL bn
  have cI := fun w' (hb : Below w1.heap.size w1 w') => specJoinAt_any b o g 0 i (lessF i2 k) hi (lessF_lt hi2) w' (range_below hA.ink hb lA) (Nat.lt_of_lt_of_le lA hb.size) (range_below rn hb ln) (Nat.lt_of_lt_of_le ln hb.size)
  have cK := fun w' (hb : Below w1.heap.size w1 w') => specJoinAt_any b (o + 12) b2 (o2 + 12) k k2 hk hk2 w' (range_below hA.cov hb lA) (Nat.lt_of_lt_of_le lA hb.size) (range_below hB.cov hb lB) (Nat.lt_of_lt_of_le lB hb.size)
  rw [show joinF i (lessF i2 k) = ovI i k i2 from rfl] at cI
  go_wp2_with fail
  refine wp_region_tail 12 (by kernel_rfl) (by kernel_rfl) ?_
  simp only [List.take_succ_cons, List.take_zero, List.drop_succ_cons, List.drop_zero]
  repeat (first | (refine wpQuiet_build2 (u := .agg (FC (ovI i k i2))) (v := .agg (FC (joinF k k2))) rfl 29 0 1 _ _ rfl rfl rfl hbl ?_) | quiet_step (first | with_reducible exact Calls.regrown_of (cI _ (below_regrown _ _ _)) | with_reducible exact Calls.regrown_of (cK _ (below_regrown _ _ _))))
  refine wpQuiet_nil ?_
  intro w3 hb3
  replace r := r.below hb3 r.lt
  replace h0 := grown_below h0 hb3 h0.size
  clear cI cK hb3
  go_wp2_with (refine wpList_store_cel rfl 29 _ _ rfl r rfl rfl (by kernel_rfl) ?_; intro r')
  exact bodyPost_ret_row (p := 4) (ty := 29) rfl rfl r' Try.underlying29 rfl (by kernel_rfl) rfl ⟨rfl, below_setRow h0 (Nat.le_refl _) _⟩
end Go.Proofs.Ytpmlepgnokbpaaa
