/- SEEKING: SeekCost: spec and impl. -/
import Derived.Test.YtjbjbdkmomkclaaDoorNeed
import Derived.Test.YtjbjbdkmomkclaaDoorLI64
namespace Go.Proofs.YtjbjbdkmomkclaaDoor
set_option maxRecDepth 100000
open Go.RowKit
set_option linter.unusedVariables false
set_option linter.unusedSimpArgs false
def sumC (L : List Stp) : List Int → Int
  | [] => 0
  | x :: l => costZ (tAt L x.toNat) + sumC L l
def skZ (L : List Stp) (p : Nat) : Int := sumC L (chL L p)
theorem costZ_pos (s : Stp) : 1 ≤ costZ s := by unfold costZ; have := baseZ_in s.1.1; omega
theorem sumC_nonneg (L : List Stp) : ∀ l, 0 ≤ sumC L l
  | [] => Int.le_refl _
  | x :: l => by
    have := sumC_nonneg L l
    have := costZ_pos (tAt L x.toNat)
    show 0 ≤ costZ (tAt L x.toNat) + sumC L l
    omega
theorem sumC_le {L : List Stp} (hn : szN L ≤ 1000000) : ∀ l : List Int, (∀ x ∈ l, 0 ≤ x ∧ x < (L.length : Int)) → sumC L l ≤ (l.length : Int) * 3000004
  | [], _ => by simp [sumC]
  | x :: l, h => by
    have ih := sumC_le hn l (fun y hy => h y (List.mem_cons_of_mem _ hy))
    have hx := h x (List.mem_cons_self ..)
    have hr := szN_row L (i := x.toNat) (by omega)
    have hb := baseZ_in (tAt L x.toNat).1.1
    have e : sumC L (x :: l) = (baseZ (tAt L x.toNat).1.1 + 3 * ((tAt L x.toNat).2.length : Int)) + sumC L l := rfl
    rw [e, List.length_cons]
    omega
theorem sumC_take (L : List Stp) : ∀ (l : List Int) (k : Nat) (x : Int), l[k]? = some x → sumC L (l.take (k + 1)) = sumC L (l.take k) + costZ (tAt L x.toNat)
  | [], _, _, h => by simp at h
  | y :: l, 0, x, h => by
    have : y = x := by simpa using h
    subst this
    simp [sumC]
  | y :: l, k + 1, x, h => by
    have ih := sumC_take L l k x (by simpa using h)
    show costZ _ + sumC L (l.take (k + 1)) = costZ _ + sumC L (l.take k) + _
    rw [ih]; omega
theorem sumC_take_le (L : List Stp) : ∀ (l : List Int) (k : Nat), sumC L (l.take k) ≤ sumC L l
  | [], k => by simp [sumC]
  | y :: l, 0 => by
    have := sumC_nonneg L (y :: l)
    simpa [sumC] using this
  | y :: l, k + 1 => by
    have := sumC_take_le L l k
    show costZ _ + sumC L (l.take k) ≤ costZ _ + sumC L l
    omega
theorem skZ_le {L : List Stp} (ho : okSts L = true) (hn : szN L ≤ 1000000) {p : Nat} (hp : p < L.length) : 0 ≤ skZ L p ∧ skZ L p ≤ 200000000 := by
  have h1 := sumC_nonneg L (chL L p)
  have h2 := sumC_le hn (chL L p) (chL_mem ho p hp)
  have h3 := chL_len ho p hp
  have h4 := (okSts_iff.1 ho).1
  unfold skZ
  omega
def seV (L : List Stp) (p : Int) : Int := ifI (asZ L p) (skZ L p.toNat)
set_option maxHeartbeats 2000000 in
theorem specSeek_any (v : Value) (L : List Stp) (p : Int) (w : World) (hL : ltSt L) (hn : szN L ≤ 1000000) (h : StsAt w w.heap.size v L) :
    Calls Tryd.prog 26 #[v, .int .i64 p] w fun e w' => e = .returned (.tuple #[.int .i64 (seV L p), .int .i64 (asZ L p)]) ∧ Below w.heap.size w w' := by
  have hll := szN_len L
  have cA := specAsked_any v L p w hL (by omega) h
  unfold seV
  rcases asZ_cases L p with ⟨ho, hc⟩ | ⟨ho, hp, hc⟩ | ⟨ho, hp, hc⟩
  · rw [hc] at cA
    rw [hc, ifI1 _ (by decide)]
    obtain ⟨A, c, rfl⟩ := h.form
    clear h ho hc
    go_enter Tryd.func26, Tryd.ntmps26
    go_wp2_with (go_at_call 46; refine cA.mono ?_; rintro e w2 ⟨rfl, hb2⟩)
    go_ret2
    exact ⟨rfl, hb2⟩
  · rw [hc] at cA
    rw [hc, ifI1 _ (by decide)]
    obtain ⟨A, c, rfl⟩ := h.form
    clear h ho hc hp
    go_enter Tryd.func26, Tryd.ntmps26
    go_wp2_with (go_at_call 46; refine cA.mono ?_; rintro e w2 ⟨rfl, hb2⟩)
    go_ret2
    exact ⟨rfl, hb2⟩
  · rw [hc] at cA
    rw [hc, ifI0]
    obtain ⟨P, rfl⟩ := Int.eq_ofNat_of_zero_le hp.1
    have hP : P < L.length := by omega
    rw [Int.toNat_natCast]
    have hq40 := (okSts_iff.1 ho).1
    have hsk := skZ_le ho hn hP
    obtain ⟨A, c, rfl, h1, h2, hA⟩ := h
    obtain ⟨b1, o1, rfl, hb1, r1⟩ := hA (by omega)
    unfold maxLen at h2
    have cC : ∀ (q : Nat) (w' : World), q < L.length → Below w.heap.size w w' → Calls Tryd.prog 30 #[.pointer (some ⟨b1, o1 + q * 5, none⟩)] w' fun e w'' => e = .returned (.int .i64 (costZ (tAt L q))) ∧ Below w'.heap.size w' w'' := fun q w' hq hb => by
      obtain ⟨z, r, sz⟩ := r1 q hq
      have hrow := szN_row L hq
      obtain ⟨A2, c2, rfl⟩ := sz.form
      exact specCost_any b1 (o1 + q * 5) (tAt L q).1 A2 (tAt L q).2.length c2 w' (okSts_how ho hq) (by omega) (range_below r hb hb1) (Nat.lt_of_lt_of_le hb1 hb.size)
    have CC := Lib.hid cC
    have R1 := Lib.hid r1
    clear hA r1 cC hc hp
    have c0P := CC.out P
    go_enter Tryd.func26, Tryd.ntmps26
    go_wp2_with (first | (go_at_call 46; refine cA.mono ?_; rintro e w2 ⟨rfl, hb2⟩) | (go_at_call 30; refine (c0P _ hP hb2).mono ?_; rintro e w3 ⟨rfl, hb3⟩; replace hb2 := grown_below hb2 hb3 hb2.size; clear hb3))
    rename_i w4
    go_loopw [1, 7] (fun pg s wr => ∃ (q : Nat) (z : Int), pg = .int .i64 (q : Int) ∧ s = .int .i64 z ∧ q < L.length ∧ 0 ≤ z ∧ z + sumC L (chL L q).tail = skZ L P ∧ Below w.heap.size w wr) (fun pg _ _ => (intOf pg).toNat)
    case atStart =>
      refine ⟨P, _, rfl, rfl, hP, by have := costZ_pos (tAt L P); omega, ?_, hb2⟩
      unfold skZ
      by_cases hw : (tAt L P).1.1 = 0
      · rw [chL_end hw]; simp [sumC]
      · rw [chL_step ho hP hw]; rfl
    case round =>
      clear hb2
      obtain ⟨q, z, rfl, rfl, hq, hz, ht, hb⟩ := hrel
      obtain ⟨zz, r, sz⟩ := R1.out q hq
      have g := range_below r hb hb1
      have c0 := st_cell0 g
      have c1 := st_cell1 g
      clear sz g r c0P
      by_cases hw : (tAt L q).1.1 = 0
      · have d0 : ((tAt L q).1.1 != 0) = false := by simp [hw]
        have hzt : z = skZ L P := by rw [chL_end hw] at ht; simpa [sumC] using ht
        have HZ := Lib.hid hzt
        clear hzt ht hw CC R1
        generalize (tAt L q).1 = hd at *
        go_wp2
        go_ret2
        exact ⟨congrArg (fun t => Ending.returned (.tuple #[.int .i64 t, .int .i64 0])) HZ.out, hb⟩
      · have d0 : ((tAt L q).1.1 != 0) = true := by simpa using hw
        have hpg := ok_page ho hq hw
        have hst := chL_step ho hq hw
        obtain ⟨Q, hQ⟩ := Int.eq_ofNat_of_zero_le hpg.1
        rw [hQ, Int.toNat_natCast] at hst
        have hQq : Q < q := by omega
        have hQl : Q < L.length := by omega
        have kw : IntKind.i64.wrap (tAt L q).1.2.1 = (Q : Int) := by rw [hQ]; exact IntWalk.i64_in _ (by omega)
        have e2 : sumC L (chL L Q) = costZ (tAt L Q) + sumC L (chL L Q).tail := by
          by_cases hw2 : (tAt L Q).1.1 = 0
          · rw [chL_end hw2]; simp [sumC]
          · rw [chL_step ho hQl hw2]; simp [sumC]
        rw [hst, List.tail_cons, e2] at ht
        have hcp := costZ_pos (tAt L Q)
        have hnn := sumC_nonneg L (chL L Q).tail
        have ks : IntKind.i64.wrap (z + costZ (tAt L Q)) = z + costZ (tAt L Q) := IntWalk.i64_in _ (by omega)
        have cQ := fun w' hb => CC.out Q w' hQl hb
        have HT := Lib.hid ht
        clear ht hst hw hpg e2 hnn CC R1
        generalize (tAt L q).1 = hd at *
        obtain ⟨x0, x1, x2, x3⟩ := hd
        simp only at hQ kw d0 c0 c1
        generalize costZ (tAt L Q) = cz at *
        go_wp2_with (go_at_call 30; refine (cQ _ hb).mono ?_; rintro e w3 ⟨rfl, hb3⟩; replace hb := grown_below hb hb3 hb.size; clear hb3)
        go_roundw
        case rel =>
          go_light
          exact ⟨Q, z + cz, rfl, rfl, hQl, by omega, by have := HT.out; omega, hb⟩
        case measure => simp [intOf]; omega
set_option maxHeartbeats 2000000 in
theorem implSeek_any (v : Value) (L : List Stp) (p : Int) (w : World) (hL : ltSt L) (hn : szN L ≤ 1000000) (hK : Kd w) (h : StsAt w w.heap.size v L) :
    Calls Tryd.prog 27 #[v, .int .i64 p] w fun e w' => e = .returned (.tuple #[.int .i64 (seV L p), .int .i64 (asZ L p)]) ∧ Below w.heap.size w w' := by
  have hll := szN_len L
  have cA := checkStep_any v L p w hL (by omega) h
  unfold seV
  rcases asZ_cases L p with ⟨ho, hc⟩ | ⟨ho, hp, hc⟩ | ⟨ho, hp, hc⟩
  · rw [hc] at cA
    rw [hc, ifI1 _ (by decide)]
    obtain ⟨A, c, rfl⟩ := h.form
    clear h ho hc
    go_enter Tryd.func27, Tryd.ntmps27
    go_wp2_with (go_at_call 47; refine cA.mono ?_; rintro e w2 ⟨rfl, hb2⟩)
    go_ret2
    exact ⟨rfl, hb2⟩
  · rw [hc] at cA
    rw [hc, ifI1 _ (by decide)]
    obtain ⟨A, c, rfl⟩ := h.form
    clear h ho hc hp
    go_enter Tryd.func27, Tryd.ntmps27
    go_wp2_with (go_at_call 47; refine cA.mono ?_; rintro e w2 ⟨rfl, hb2⟩)
    go_ret2
    exact ⟨rfl, hb2⟩
  · rw [hc] at cA
    rw [hc, ifI0]
    obtain ⟨P, rfl⟩ := Int.eq_ofNat_of_zero_le hp.1
    have hP : P < L.length := by omega
    rw [Int.toNat_natCast]
    have hq40 := (okSts_iff.1 ho).1
    have hsk := skZ_le ho hn hP
    have cN := fun w' (hb : Below w.heap.size w w') => needed_any v L P w' ho hP (h.later hb)
    have hmem := chL_mem ho P hP
    have hlen := chL_len ho P hP
    obtain ⟨A, c, rfl, h1, h2, hA⟩ := h
    obtain ⟨b1, o1, rfl, hb1, r1⟩ := hA (by omega)
    unfold maxLen at h2
    have R1 := Lib.hid r1
    clear hA r1 hc hp
    go_enter Tryd.func27, Tryd.ntmps27
    go_wp2_with (go_at_call 47; refine cA.mono ?_; rintro e w2 ⟨rfl, hb2⟩)
    refine (cN _ hb2).mono ?_
    rintro e w3 ⟨u, rfl, hown, hb3⟩
    have hw3 := grown_below hb2 hb3 hb2.size
    have hs := (hown.sl (by decide))
    obtain ⟨A3, c3, rfl, h31, h32, hA3⟩ := hs
    unfold maxLen at h32
    have HA3 := Lib.hid hA3
    clear hb2 hb3 hown cN cA hA3
    go_wp2
    go_loopw [7, 20] (fun s i wr => ∃ k : Nat, k ≤ (chL L P).length ∧ i = .int .i64 (k : Int) ∧ s = .int .i64 (sumC L ((chL L P).take k)) ∧ Below w3.heap.size w3 wr) (fun _ i _ => (chL L P).length - (intOf i).toNat)
    case atStart => exact ⟨0, by omega, rfl, by simp [sumC], Below.refl _ _⟩
    case round =>
      obtain ⟨k, hk, rfl, rfl, hb⟩ := hrel
      by_cases hlt : k < (chL L P).length
      · obtain ⟨b3, o3, rfl, hb3, r3⟩ := HA3.out (by omega)
        have hxk := getD_get (z := (0 : Int)) hlt
        have cx := int_cell (range_below r3 hb hb3) hlt
        have hx := hmem _ (List.mem_of_getElem? hxk)
        have htk := sumC_take L (chL L P) k _ hxk
        have htl := sumC_take_le L (chL L P) (k + 1)
        have htn := sumC_nonneg L ((chL L P).take k)
        generalize (chL L P).getD k 0 = x at *
        obtain ⟨X, rfl⟩ := Int.eq_ofNat_of_zero_le hx.1
        have hX : X < L.length := by omega
        rw [Int.toNat_natCast] at htk
        obtain ⟨z, r, sz⟩ := R1.out X hX
        have hrow := szN_row L hX
        obtain ⟨A2, c2, rfl⟩ := sz.form
        have hbw := grown_below hw3 hb hw3.size
        have g : wr.rangeAt b1 (o1 + X * 5) (eSt.c ((tAt L X).1, A2, (tAt L X).2.length, c2)) := range_below r hbw hb1
        have cS : ∀ w', Below wr.heap.size wr w' → Calls Tryd.prog 32 #[.agg (StC (tAt L X).1 (.slice A2 (tAt L X).2.length c2))] w' fun e w'' => e = .returned (.int .i64 (costZ (tAt L X))) ∧ Below w'.heap.size w' w'' := fun w' hb' => cost_any (tAt L X).1 A2 (tAt L X).2.length c2 w' (okSts_how ho hX) (by omega) ((hK.below hbw).below hb')
        have ks : IntKind.i64.wrap (sumC L ((chL L P).take k) + costZ (tAt L X)) = sumC L ((chL L P).take (k + 1)) := by
          rw [htk]
          have : skZ L P = sumC L (chL L P) := rfl
          exact IntWalk.i64_in _ (by have := costZ_pos (tAt L X); omega)
        clear r sz r3 htk htl htn hx hmem
        generalize costZ (tAt L X) = cz at *
        generalize (tAt L X).1 = hd at *
        generalize (tAt L X).2.length = m at *
        go_wp2_with (first | (refine wpList_load_el (E := eSt) rfl 31 _ rfl _ _ rfl (hd, A2, m, c2) (StC hd (.slice A2 m c2)) rfl g Tryd.underlying31 rfl (by kernel_rfl) ?_) | (go_at_call 32; refine (cS _ (Below.refl _ _)).mono ?_; rintro e w5 ⟨rfl, hb5⟩; replace hb := grown_below hb hb5 hb.size))
        go_roundw
        case rel =>
          go_light
          exact ⟨k + 1, by omega, by go_num, rfl, hb⟩
        case measure => simp [intOf]; omega
      · have hkl : k = (chL L P).length := by omega
        subst hkl
        rw [List.take_length]
        go_wp2
        go_ret2
        exact ⟨rfl, grown_below hw3 hb hw3.size⟩
end Go.Proofs.YtjbjbdkmomkclaaDoor
