/- spec: JumpsOf, AllJumps, LoopJumps. -/
import Derived.Test.YthkpefdjhdemeabRows
import Derived.Test.YthkpefdjhdemeabSBook
import Derived.Test.YthkpefdjhdemeabTake
namespace Go.Proofs.Ythkpefdjhdemeab
set_option maxRecDepth 100000
open Go.RowKit
set_option linter.unusedVariables false
set_option linter.unusedSimpArgs false
theorem jumpsL_bounds (L : List (Nat → Nat)) : ∀ x ∈ jumpsL L, 0 ≤ x ∧ x ≤ 192 := by
  intro x hx
  obtain ⟨i, _, rfl⟩ := List.mem_map.1 hx
  exact jmp_bounds L i
theorem jumpsL_length (L : List (Nat → Nat)) : (jumpsL L).length = L.length - 1 := tab_length _ _
theorem okB_len {L : List (Nat → Nat)} (h : okB L = true) : L.length ≤ 40 := (okB_iff.1 h).1
set_option maxHeartbeats 400000 in
theorem specJumpsOf_any (v : Value) (L : List (Nat → Nat)) (w : World) (hL : ltL L) (h : SlAt eFr w w.heap.size v L) :
    Calls Try.prog 22 #[v] w (GivesL (eI .i64) 2 (ifL (okBC L) (jumpsL L)) (okBC L) w) := by
  have cO := specOk_any v L w h
  obtain ⟨A, c, rfl⟩ := h.form
  rcases okBC_cases L with ⟨ho, hc⟩ | ⟨ho, hc⟩
  · rw [ho] at cO
    rw [hc, ifL1 _ (by decide)]
    have hm := OwnL.made (E := eI .i64) w w.heap.size 2 (Nat.le_refl _)
    have h0 := (Below.refl w.heap.size w).alloc (Nat.le_refl _) (.cells #[] 2)
    clear ho hc h
    go_enter Try.func22, Try.ntmps22
    go_wp2_with (go_at_call 57; refine cO.mono ?_; rintro e w' ⟨rfl, rfl⟩)
    go_ret2
    exact ⟨_, rfl, hm, h0⟩
  · rw [ho] at cO
    rw [hc, ifL0]
    clear hc
    go_enter Try.func22, Try.ntmps22
    go_wp2_with (first | (go_at_call 57; refine cO.mono ?_; rintro e w' ⟨rfl, rfl⟩) | (go_at_call 63; refine (jumps_any _ L _ hL ho h).mono ?_; rintro e w1 ⟨v', rfl, hown, hb⟩))
    go_ret2
    exact ⟨_, rfl, hown, hb⟩
def allV (L : List (Nat → Nat)) : Int := ifI (okBC L) (sumI (jumpsL L))
def loopV (L : List (Nat → Nat)) : Int := ifI (okBC L) (sumI (tab (jmp L) L.length))
set_option maxHeartbeats 400000 in
theorem specAllJumps_any (v : Value) (L : List (Nat → Nat)) (w : World) (hL : ltL L) (h : SlAt eFr w w.heap.size v L) :
    Calls Try.prog 28 #[v] w fun e w' => e = .returned (.tuple #[.int .i64 (allV L), .int .i64 (okBC L)]) ∧ Below w.heap.size w w' := by
  have cO := specOk_any v L w h
  obtain ⟨A, c, rfl⟩ := h.form
  rcases okBC_cases L with ⟨ho, hc⟩ | ⟨ho, hc⟩
  · rw [ho] at cO
    unfold allV
    rw [hc, ifI1 _ (by decide)]
    clear ho hc h
    go_enter Try.func28, Try.ntmps28
    go_wp2_with (go_at_call 57; refine cO.mono ?_; rintro e w' ⟨rfl, rfl⟩)
    go_ret2
    exact ⟨rfl, Below.refl _ _⟩
  · rw [ho] at cO
    unfold allV
    rw [hc, ifI0]
    have hlen := okB_len ho
    have cS := fun (u : Value) (W : World) (hu : SlAt (eI .i64) W W.heap.size u (jumpsL L)) => sum_any u (jumpsL L) 192 W (by decide) (by rw [jumpsL_length]; omega) (jumpsL_bounds L) hu
    clear hc
    go_enter Try.func28, Try.ntmps28
    go_wp2_with (first | (go_at_call 57; refine cO.mono ?_; rintro e w' ⟨rfl, rfl⟩) | (go_at_call 63; refine (jumps_any _ L _ hL ho h).mono ?_; rintro e w1 ⟨v', rfl, hown, hb⟩) | (go_at_call 66; refine (cS _ _ (hown.sl (by decide))).mono ?_; rintro e w2 ⟨rfl, rfl⟩))
    go_ret2
    exact ⟨rfl, hb⟩
set_option maxHeartbeats 1000000 in
theorem specLoopJumps_any (v : Value) (L : List (Nat → Nat)) (w : World) (hL : ltL L) (h : SlAt eFr w w.heap.size v L) :
    Calls Try.prog 30 #[v] w fun e w' => e = .returned (.tuple #[.int .i64 (loopV L), .int .i64 (okBC L)]) ∧ Below w.heap.size w w' := by
  have cO := specOk_any v L w h
  obtain ⟨A, c, rfl⟩ := h.form
  rcases okBC_cases L with ⟨ho, hc⟩ | ⟨ho, hc⟩
  · rw [ho] at cO
    unfold loopV
    rw [hc, ifI1 _ (by decide)]
    clear ho hc h
    go_enter Try.func30, Try.ntmps30
    go_wp2_with (go_at_call 57; refine cO.mono ?_; rintro e w' ⟨rfl, rfl⟩)
    go_ret2
    exact ⟨rfl, Below.refl _ _⟩
  · rw [ho] at cO
    unfold loopV
    rw [hc, ifI0, loop_sum]
    have hlen := okB_len ho
    clear hc
    by_cases hn : L.length = 0
    · rw [if_pos hn]
      have e0 : ((L.length : Int) == 0) = true := by simp [hn]
      clear hn h
      go_enter Try.func30, Try.ntmps30
      go_wp2_with (go_at_call 57; refine cO.mono ?_; rintro e w' ⟨rfl, rfl⟩)
      go_ret2
      exact ⟨rfl, Below.refl _ _⟩
    · rw [if_neg hn]
      have e0 : ((L.length : Int) == 0) = false := beq_eq_false_iff_ne.2 (by omega)
      have hp : 0 < L.length := by omega
      have h' := h
      obtain ⟨A', c', he, h1, h2, hA⟩ := h'
      cases he
      obtain ⟨b1, o1, rfl, hb1, r1⟩ := hA hp
      unfold maxLen at h2
      have g1 := range_part r1 (fAt_get (show L.length - 1 < L.length by omega))
      have g2 := range_part r1 (fAt_get hp)
      have ho' := (okB_iff.1 ho).2
      have cD := fun w' (hb' : Below w.heap.size w w') => differAt_ok b1 (o1 + (L.length - 1) * 12) b1 (o1 + 0 * 12) _ _ (fAt_lt hL (L.length - 1)) (fAt_lt hL 0) (ho' _ (by omega)) (ho' 0 hp) w' (range_below g1 hb' hb1) (Nat.lt_of_lt_of_le hb1 hb'.size) (range_below g2 hb' hb1) (Nat.lt_of_lt_of_le hb1 hb'.size)
      rw [Nat.zero_mul, Nat.add_zero] at cD
      have cS := fun (u : Value) (W : World) (hu : SlAt (eI .i64) W W.heap.size u (jumpsL L)) => sum_any u (jumpsL L) 192 W (by decide) (by rw [jumpsL_length]; omega) (jumpsL_bounds L) hu
      have hs1 := sumI_bounds (n := 192) (by decide) (jumpsL_bounds L)
      rw [jumpsL_length] at hs1
      have hd := difN_le (fAt L (L.length - 1)) (fAt L 0)
      have q1 := hs1.1
      have q2 : sumI (jumpsL L) ≤ 8000 := by omega
      have k1 : IntKind.i64.wrap ((L.length : Int) - 1) = ((L.length - 1 : Nat) : Int) := by rw [IntWalk.i64_in _ (by omega)]; omega
      have k2 : L.length - 1 < L.length := by omega
      generalize difN (fAt L (L.length - 1)) (fAt L 0) = d at *
      have CD := Lib.hid cD
      have HO := Lib.hid ho
      clear hn g1 g2 ho' r1 hA cD hs1 ho
      go_enter Try.func30, Try.ntmps30
      go_wp2_with (go_at_call 57; refine cO.mono ?_; rintro e w' ⟨rfl, rfl⟩)
      refine wp_region_takes (by kernel_rfl) ?_
      refine held_take (i := 0) (v := ?_) rfl (by kernel_rfl) (by kernel_rfl) (by kernel_rfl) (fun _ _ _ h => nomatch h.1) (Or.inl ⟨by rfl, ?_⟩) trivial ?_
      rotate_left
      · intro w hSw; go_simp; (try with_reducible rfl)
      try simp only [Act.put, List.setIfInBounds_toArray, List.set_cons_zero, List.set_cons_succ]
      refine held_take (i := 3) (v := ?_) rfl (by kernel_rfl) (by kernel_rfl) (by kernel_rfl) (fun _ _ _ h => nomatch h.1) (Or.inl ⟨by rfl, ?_⟩) trivial ?_
      rotate_left
      · intro w hSw; go_simp; (try with_reducible rfl)
      try simp only [Act.put, List.setIfInBounds_toArray, List.set_cons_zero, List.set_cons_succ]
      refine held_take (i := 4) (v := ?_) rfl (by kernel_rfl) (by kernel_rfl) (by kernel_rfl) (fun _ _ _ h => nomatch h.1) (Or.inl ⟨by rfl, ?_⟩) trivial ?_
      rotate_left
      · intro w hSw; go_simp; (try with_reducible rfl)
      try simp only [Act.put, List.setIfInBounds_toArray, List.set_cons_zero, List.set_cons_succ]
      refine held_take (i := 5) (v := ?_) rfl (by kernel_rfl) (by kernel_rfl) (by kernel_rfl) (fun _ _ _ h => nomatch h.1) (Or.inl ⟨by rfl, ?_⟩) trivial ?_
      rotate_left
      · intro w hSw; go_simp; (try with_reducible rfl)
      try simp only [Act.put, List.setIfInBounds_toArray, List.set_cons_zero, List.set_cons_succ]
      refine held_take (i := 6) (v := ?_) rfl (by kernel_rfl) (by kernel_rfl) (by kernel_rfl) (fun _ _ _ h => nomatch h.1) (Or.inl ⟨by rfl, ?_⟩) trivial ?_
      rotate_left
      · intro w hSw; go_simp; (try with_reducible rfl)
      try simp only [Act.put, List.setIfInBounds_toArray, List.set_cons_zero, List.set_cons_succ]
      refine held_take (i := 7) (v := ?_) rfl (by kernel_rfl) (by kernel_rfl) (by kernel_rfl) (fun _ _ _ h => nomatch h.1) (Or.inl ⟨by rfl, ?_⟩) trivial ?_
      rotate_left
      · intro w hSw; go_simp; (try with_reducible rfl)
      try simp only [Act.put, List.setIfInBounds_toArray, List.set_cons_zero, List.set_cons_succ]
      refine held_take (i := 8) (v := ?_) rfl (by kernel_rfl) (by kernel_rfl) (by kernel_rfl) (fun _ _ _ h => nomatch h.1) (Or.inl ⟨by rfl, ?_⟩) trivial ?_
      rotate_left
      · intro w hSw; go_simp; (try with_reducible rfl)
      try simp only [Act.put, List.setIfInBounds_toArray, List.set_cons_zero, List.set_cons_succ]
      refine held_take (i := 9) (v := ?_) rfl (by kernel_rfl) (by kernel_rfl) (by kernel_rfl) (fun _ _ _ h => nomatch h.1) (Or.inl ⟨by rfl, ?_⟩) trivial ?_
      rotate_left
      · intro w hSw; go_simp; (try with_reducible rfl)
      try simp only [Act.put, List.setIfInBounds_toArray, List.set_cons_zero, List.set_cons_succ]
      refine forced [1, 2, 10, 11, 12, 13] (by decide) (by kernel_rfl) ?_
      simp only [List.filterMap_cons, List.filterMap_nil, List.getElem?_toArray, List.getElem?_cons_succ, List.getElem?_cons_zero]
      clear k1 k2
      go_wp2_with (first | (go_at_call 63; refine (jumps_any _ L _ hL HO.out (h.drewN 1)).mono ?_; rintro e w1 ⟨v', rfl, hown, hb⟩) | (go_at_call 66; refine (cS _ _ (hown.sl (by decide))).mono ?_; rintro e w2 ⟨rfl, rfl⟩) | (go_at_call 68; refine (CD.out _ (below_drewN (Below.refl _ _) 1 |>.trans hb)).mono ?_; rintro e w3 ⟨rfl, hb3⟩))
      rw [normalOnly_normal]
      go_wp2
      go_ret2
      exact ⟨rfl, (below_drewN (Below.refl _ _) 1).trans (hb.trans (hb3.mono hb.size))⟩
end Go.Proofs.Ythkpefdjhdemeab
