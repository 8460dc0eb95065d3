/- WidestGap: spec and impl. A number is stored into a row of the call's own. -/
import Derived.Test.YtennmnkjdchbhaaGreat
import Derived.Test.YtennmnkjdchbhaaBetween
namespace Go.Proofs.Ytennmnkjdchbhaa
set_option maxRecDepth 100000
open Go.RowKit
set_option linter.unusedVariables false
set_option linter.unusedSimpArgs false
section
variable {α : Type} {E : Enc α}
theorem Enc.cells_set1 (L : List α) {i : Nat} (x : α) (hi : i < L.length) {u : Value} (hx : E.c x = [u]) : E.cells (L.set i x) = (E.cells L).set i u := by
  have hn : E.n = 1 := by rw [← E.len x, hx]; rfl
  rw [Enc.cells_set L x hi, hx, hn, Nat.mul_one, List.set_eq_take_append_cons_drop, if_pos (by rw [Enc.cells_length, hn]; omega)]
  simp
theorem OwnL.cellAt {w : World} {base : Nat} {t : TypeId} {g cap n : Nat} {L : List α} (h : OwnL E w base t (.slice (some ⟨g, 0, none⟩) n cap) L) {i : Nat} (hi : i < L.length) {x : α} (hx : L[i]? = some x) {u : Value} (hc : E.c x = [u]) :
    w.cell? ⟨g, i, none⟩ = some u ∧ w.frozen? ⟨g, i, none⟩ = false := by
  rcases h.form with ⟨h, _⟩ | ⟨g', cap', R, hv, _, _, _, _, hr⟩
  · cases h
  · injection hv with h1 _ _
    injection h1 with h1
    injection h1 with h1
    subst h1
    have hn : E.n = 1 := by rw [← E.len x, hc]; rfl
    refine ⟨?_, hr.free i⟩
    have h3 := Enc.cells_get (E := E) L i x hx 0 u (by rw [hc]; rfl)
    rw [hn, Nat.mul_one, Nat.add_zero] at h3
    rw [hr.cell]
    have h4 : i < (E.cells L).length := (List.getElem?_eq_some_iff.1 h3).1
    simp only [List.getElem?_toArray]
    rw [List.getElem?_append_left h4, h3]
/-- A number is stored. -/
theorem OwnL.store1 {w : World} {base : Nat} {t : TypeId} {g cap n : Nat} {L : List α} (h : OwnL E w base t (.slice (some ⟨g, 0, none⟩) n cap) L) {i : Nat} (hi : i < L.length) (x : α) {u : Value} (hx : E.c x = [u]) :
    OwnL E (w.setCell ⟨g, i, none⟩ u) base t (.slice (some ⟨g, 0, none⟩) n cap) (L.set i x) ∧ base ≤ g := by
  have hn : E.n = 1 := by rw [← E.len x, hx]; rfl
  obtain ⟨hl, ⟨hv, h0⟩ | ⟨g', cap', cur, hv, hb, hh, h1, h2, h3, h4⟩⟩ := h
  · cases hv
  · injection hv with e1 e2 e3
    injection e1 with e1
    injection e1 with e1
    subst e1
    subst e3
    refine ⟨⟨?_, .inr ⟨g, cap, cur.setIfInBounds i u, ?_, hb, heap_setCell_same w g i _ t _ hh, ?_, h2, ?_, ?_⟩⟩, hb⟩
    · rw [Enc.cells_length]
    · rw [List.length_set, ← e2]
    · rw [List.length_set]; exact h1
    · simpa using h3
    · rw [List.length_set, Enc.cells_set1 L x hi hx, Array.toList_setIfInBounds, List.take_set, h4]
end
theorem gMax_ge (l : List Int) (h : 0 < l.length) {j : Nat} (hj : j < l.length) : l.getD j 0 ≤ gMax l := gTo_max l _ j (by omega)
theorem gAt_lt (l : List Int) (h : 0 < l.length) : gAt l < l.length := by have := gTo_le l (l.length - 1); unfold gAt; omega
theorem gMax_mem {l : List Int} (h : 0 < l.length) : gMax l ∈ l := by
  have hg := gAt_lt l h
  unfold gMax
  rw [List.getD_eq_getElem?_getD, List.getElem?_eq_getElem hg]
  exact List.getElem_mem hg
/-- The greatest one of the others. -/
def secTo (l : List Int) (p : Nat) : Nat → Int
  | 0 => 0
  | k + 1 => if k = p then secTo l p k else max (secTo l p k) (l.getD k 0)
theorem secTo_lo (l : List Int) (p : Nat) : ∀ k, 0 ≤ secTo l p k
  | 0 => Int.le_refl _
  | k + 1 => by
    have := secTo_lo l p k
    unfold secTo
    split <;> omega
theorem secTo_ge (l : List Int) (p : Nat) : ∀ k j, j < k → j ≠ p → l.getD j 0 ≤ secTo l p k
  | 0, j, h, _ => by omega
  | k + 1, j, h, hn => by
    unfold secTo
    rcases Nat.lt_succ_iff_lt_or_eq.1 h with h1 | rfl
    · have := secTo_ge l p k j h1 hn
      split <;> omega
    · rw [if_neg hn]; omega
theorem secTo_is (l : List Int) (p : Nat) : ∀ k, secTo l p k = 0 ∨ ∃ j, j < k ∧ j ≠ p ∧ secTo l p k = l.getD j 0
  | 0 => .inl rfl
  | k + 1 => by
    unfold secTo
    split
    · rcases secTo_is l p k with h | ⟨j, h1, h2, h3⟩
      · exact .inl h
      · exact .inr ⟨j, by omega, h2, h3⟩
    · rename_i hk
      rcases Int.le_total (secTo l p k) (l.getD k 0) with h | h
      · exact .inr ⟨k, by omega, hk, by omega⟩
      · rw [Int.max_eq_left h]
        rcases secTo_is l p k with h | ⟨j, h1, h2, h3⟩
        · exact .inl h
        · exact .inr ⟨j, by omega, h2, h3⟩
theorem getD_set (l : List Int) (p j : Nat) (x : Int) (hp : p < l.length) : (l.set p x).getD j 0 = if j = p then x else l.getD j 0 := by
  simp only [List.getD_eq_getElem?_getD]
  by_cases e : j = p
  · subst e; simp [hp]
  · rw [List.getElem?_set_ne (by omega), if_neg e]
theorem sec_max {l : List Int} {p : Nat} (hp : p < l.length) (h0 : ∀ x ∈ l, 0 ≤ x) : gMax (l.set p 0) = secTo l p l.length := by
  have hl : 0 < (l.set p 0).length := by rw [List.length_set]; omega
  apply Int.le_antisymm
  · have hm := gMax_mem hl
    obtain ⟨j, hj⟩ := List.getElem?_of_mem hm
    have hjl : j < (l.set p 0).length := (List.getElem?_eq_some_iff.1 hj).1
    have e : (l.set p 0).getD j 0 = gMax (l.set p 0) := by rw [List.getD_eq_getElem?_getD, hj]; rfl
    rw [getD_set l p j 0 hp] at e
    rw [List.length_set] at hjl
    rw [← e]
    split
    · exact secTo_lo _ _ _
    · rename_i hn; exact secTo_ge l p _ j hjl hn
  · rcases secTo_is l p l.length with h | ⟨j, h1, h2, h3⟩
    · rw [h]
      have := gMax_ge (l.set p 0) hl (j := p) (by rw [List.length_set]; exact hp)
      rw [getD_set l p p 0 hp, if_pos rfl] at this
      exact this
    · rw [h3]
      have := gMax_ge (l.set p 0) hl (j := j) (by rw [List.length_set]; exact h1)
      rwa [getD_set l p j 0 hp, if_neg h2] at this
/-- By how much the widest gap is wider. -/
def wgV (L : List (Nat → Nat)) : Int := ifI (gjC L) (gMax (jumpsL L) - secTo (jumpsL L) (gAt (jumpsL L)) (jumpsL L).length)
set_option maxHeartbeats 2000000 in
theorem specWidestGap_any (v : Value) (L : List (Nat → Nat)) (w : World) (hL : ltL L) (h : SlAt eFr w w.heap.size v L) :
    Calls Try.prog 34 #[v] w fun e w' => e = .returned (.tuple #[.int .i64 (ifI (gjC L) (gAt (jumpsL L))), .int .i64 (wgV L), .int .i64 (gjC L)]) ∧ Below w.heap.size w w' := by
  have cO := specOk_any v L w h
  have hll := jumpsL_length L
  obtain ⟨A, c, rfl⟩ := h.form
  unfold wgV
  rcases gjC_cases L with ⟨ho, hc⟩ | ⟨ho, hn, hc⟩ | ⟨ho, hn, hc⟩
  · rw [ho] at cO
    rw [hc, ifI1 _ (by decide), ifI1 _ (by decide)]
    clear ho hc h hll
    go_enter Try.func34, Try.ntmps34
    go_wp2_with (go_at_call 46; refine cO.mono ?_; rintro e w' ⟨rfl, rfl⟩)
    go_ret3
    exact ⟨rfl, Below.refl _ _⟩
  · rw [ho] at cO
    rw [hc, ifI1 _ (by decide), ifI1 _ (by decide)]
    have e0 : decide ((L.length : Int) < 2) = true := decide_eq_true (by omega)
    clear ho hc h hn hll
    go_enter Try.func34, Try.ntmps34
    go_wp2_with (go_at_call 46; refine cO.mono ?_; rintro e w' ⟨rfl, rfl⟩)
    go_ret3
    exact ⟨rfl, Below.refl _ _⟩
  · have cJ := jumps_any _ L w hL ho h
    rw [ho] at cO
    rw [hc, ifI0, ifI0]
    have e0 : decide ((L.length : Int) < 2) = false := decide_eq_false (by omega)
    have hjl : (jumpsL L).length ≤ 1000 := by have := okB_len ho; omega
    have hbd := jumpsL_bounds L
    clear ho hc h hll
    generalize jumpsL L = l at *
    go_enter Try.func34, Try.ntmps34
    go_wp2_with (go_at_call 46; refine cO.mono ?_; rintro e w' ⟨rfl, rfl⟩)
    refine cJ.mono ?_
    rintro e w1 ⟨u, rfl, hown, hb⟩
    have hs := hown.sl (by decide)
    obtain ⟨A2, c2, rfl, h1, h2, hA⟩ := hs
    obtain ⟨b1, o1, rfl, hb1, r1⟩ := hA hn
    unfold maxLen at h2
    clear hA hown e0
    go_wp2
    go_loopw [6, 7] (fun a i wr => ∃ k : Nat, k + 1 ≤ l.length ∧ i = .int .i64 ((k : Int) + 1) ∧ a = .int .i64 (gTo l k) ∧ Below w1.heap.size w1 wr) (fun _ i _ => l.length - (intOf i).toNat)
    case atStart => exact ⟨0, by omega, rfl, rfl, Below.refl _ _⟩
    case round =>
      obtain ⟨k, hk, rfl, rfl, hb2⟩ := hrel
      have hle := gTo_le l k
      by_cases hlt : k + 1 < l.length
      · have c1 := int_cell (range_below r1 hb2 hb1) hlt
        have cg := int_cell (range_below r1 hb2 hb1) (show gTo l k < l.length by omega)
        have hst : gTo l (k + 1) = if l.getD (gTo l k) 0 < l.getD (k + 1) 0 then k + 1 else gTo l k := rfl
        have hi2 : (k : Int) + 1 < (l.length : Int) := by omega
        have hi3 : ((k : Int) + 1).toNat = k + 1 := by omega
        generalize l.getD (k + 1) 0 = x at *
        generalize l.getD (gTo l k) 0 = y at *
        have HST := Lib.hid hst
        clear hst
        generalize gTo l k = p at *
        have hpl : p < l.length := by omega
        by_cases hxy : y < x
        · have hd : decide (y < x) = true := decide_eq_true hxy
          clear hbd
          go_wp2
          go_quiet (fail)
          go_wp2
          go_roundw
          case rel =>
            go_light
            exact ⟨k + 1, by omega, by go_num, by rw [HST.out, if_pos hxy] <;> go_num, below_drewN hb2 _⟩
          case measure => simp [intOf]; omega
        · have hd : decide (y < x) = false := decide_eq_false hxy
          clear hbd
          go_wp2
          go_quiet (fail)
          go_wp2
          go_roundw
          case rel =>
            go_light
            exact ⟨k + 1, by omega, by go_num, by rw [HST.out, if_neg (by omega)], below_drewN hb2 _⟩
          case measure => simp [intOf]; omega
      · have hkl : k = l.length - 1 := by omega
        have hv : gAt l = gTo l k := by unfold gAt; rw [hkl]
        have hv2 : gMax l = l.getD (gTo l k) 0 := by unfold gMax; rw [hv]
        have cg := int_cell (range_below r1 hb2 hb1) (show gTo l k < l.length by omega)
        have hgl : gMax l ≤ 192 := (hbd _ (gMax_mem hn)).2
        have hg0 : 0 ≤ gMax l := (hbd _ (gMax_mem hn)).1
        rw [← hv2] at cg
        have HV := Lib.hid hv
        clear hv hv2 hkl
        generalize hm : gMax l = m at *
        have HMX := Lib.hid hm
        clear hm
        generalize hp : gTo l k = p at *
        have hpl : p < l.length := by omega
        clear hp
        obtain ⟨wo, rfl⟩ : ∃ wo : World, wo = wr := ⟨_, rfl⟩
        go_wp2
        go_loop [8, 9] (fun s i => ∃ j : Nat, j ≤ l.length ∧ i = .int .i64 j ∧ s = .int .i64 (secTo l p j)) (fun _ i => l.length - (intOf i).toNat)
        case atStart => exact ⟨0, by omega, rfl, rfl⟩
        case round =>
          obtain ⟨j, hj, rfl, rfl⟩ := hrel
          have hst : secTo l p (j + 1) = if j = p then secTo l p j else max (secTo l p j) (l.getD j 0) := rfl
          by_cases hlj : j < l.length
          · have cj := int_cell (range_below r1 hb2 hb1) hlj
            have HST := Lib.hid hst
            clear hst hbd
            by_cases e : j = p
            · have hd : ((j : Int) != (p : Int)) = false := by simp [e]
              have HE := Lib.hid e
              clear e
              generalize secTo l p j = s at *
              go_wp2
              go_round
              case rel =>
                go_light
                exact ⟨j + 1, by omega, by go_num, by rw [HST.out, if_pos HE.out]⟩
              case measure => simp [intOf]; omega
            · have hd : ((j : Int) != (p : Int)) = true := by simp; omega
              have HE := Lib.hid e
              clear e
              generalize secTo l p j = s at *
              generalize l.getD j 0 = x at *
              go_wp2_with (go_at_call 65; refine (specMax_any _ _ _).mono ?_; rintro e w' ⟨rfl, rfl⟩)
              go_round
              case rel =>
                go_light
                exact ⟨j + 1, by omega, by go_num, by rw [HST.out, if_neg HE.out]⟩
              case measure => simp [intOf]; omega
          · have hjl2 : j = l.length := by omega
            have hs0 := secTo_lo l p j
            have hs1 : secTo l p j ≤ 192 := by
              rcases secTo_is l p j with h | ⟨q, h1, h2, h3⟩
              · omega
              · rw [h3, List.getD_eq_getElem?_getD, List.getElem?_eq_getElem (by omega)]
                exact (hbd _ (List.getElem_mem _)).2
            clear hst hbd
            subst hjl2
            generalize hsv : secTo l p l.length = s at *
            have HS := Lib.hid hsv
            clear hsv
            have kw : IntKind.i64.wrap (m - s) = m - s := IntWalk.i64_in _ (by omega)
            go_wp2
            go_quiet (fail)
            go_wp2
            go_ret3
            exact ⟨by rw [HMX.out, HV.out, HS.out]; rfl, hb.trans ((below_drewN hb2 _).mono hb.size)⟩
set_option maxHeartbeats 2000000 in
theorem implWidestGap_any (v : Value) (L : List (Nat → Nat)) (w : World) (hL : ltL L) (h : SlAt eFr w w.heap.size v L) :
    Calls Try.prog 35 #[v] w fun e w' => e = .returned (.tuple #[.int .i64 (ifI (gjC L) (gAt (jumpsL L))), .int .i64 (wgV L), .int .i64 (gjC L)]) ∧ Below w.heap.size w w' := by
  have cG := implGreatestJump_any v L w hL h
  have hll := jumpsL_length L
  unfold wgV
  rcases gjC_cases L with ⟨ho, hc⟩ | ⟨ho, hn, hc⟩ | ⟨ho, hn, hc⟩
  case inr.inr =>
    have hlen := okB_len ho
    have hml := h.len
    have cJ := fun (w1 : World) (hb1 : Below w.heap.size w w1) => listBy_i64 ((L.length : Int) - 1) 68 v (jmp L) w1 (by omega) (by omega) (callJump v) (fun i hi w2 hb2 => jump_any v L i w2 hL hlen (by omega) ((h.later hb1).later hb2))
    have hn2 : ((L.length : Int) - 1).toNat = L.length - 1 := by omega
    rw [hn2] at cJ
    change ∀ w1, Below w.heap.size w w1 → Calls Try.prog _ _ w1 (GivesV (eI .i64) 2 (jumpsL L) w1) at cJ
    rw [hc, ifI0, ifI0] at cG
    rw [hc, ifI0, ifI0]
    have hbd := jumpsL_bounds L
    have CJ := Lib.hid cJ
    obtain ⟨A, c, rfl⟩ := h.form
    have k1 : IntKind.i64.wrap ((L.length : Int) - 1) = (L.length : Int) - 1 := IntWalk.i64_in _ (by omega)
    clear ho hc h cJ hn2 hll
    generalize jumpsL L = l at *
    have hpl := gAt_lt l hn
    have hgl : gMax l ≤ 192 := (hbd _ (gMax_mem hn)).2
    have hg0 : 0 ≤ gMax l := (hbd _ (gMax_mem hn)).1
    have hse := sec_max hpl (fun x hx => (hbd x hx).1)
    have hs0 := secTo_lo l (gAt l) l.length
    have hs1 : secTo l (gAt l) l.length ≤ 192 := by
      rcases secTo_is l (gAt l) l.length with h | ⟨q, h1, h2, h3⟩
      · omega
      · rw [h3, List.getD_eq_getElem?_getD, List.getElem?_eq_getElem (by omega)]
        exact (hbd _ (List.getElem_mem _)).2
    have hpg := getD_get (z := 0) hpl
    generalize hsv : secTo l (gAt l) l.length = s at *
    generalize gMax l = m at *
    generalize gAt l = p at *
    have HSE := Lib.hid hse
    have kw : IntKind.i64.wrap (m - s) = m - s := IntWalk.i64_in _ (by omega)
    have HB := Lib.hid hbd
    have HPG := Lib.hid hpg
    clear hbd hse hsv hpg
    go_enter Try.func35, Try.ntmps35
    go_wp2_with fail
    refine cG.mono ?_
    rintro e w1 ⟨rfl, hb1⟩
    go_wp2_with fail
    refine (CJ.out _ hb1).mono ?_
    rintro e w2 ⟨u, rfl, hown, hb2⟩
    rcases hown.form with ⟨_, h0⟩ | ⟨g, cap, R, rfl, _, hgl2, hcap, hcm, _⟩
    · rw [h0] at hn; exact absurd hn (by simp)
    have hb3 := hb1.trans (hb2.mono hb1.size)
    obtain ⟨cq, fq⟩ := hown.cellAt hpl HPG.out rfl
    obtain ⟨hst, hbg⟩ := hown.store1 hpl 0 rfl
    have sM := hst.sl (by decide)
    have hM := slMax_any _ _ _ (by rw [List.length_set]; exact hn) sM
    rw [HSE.out] at hM
    have hb4 := hb3.setCell (p := ⟨g, p, none⟩) (Nat.le_trans hb1.size hbg) (.int .i64 0)
    have HM := Lib.hid hM
    have HB4 := Lib.hid hb4
    clear hown hst sM hM hb4 hb3 hb2
    go_wp2_with fail
    refine (HM.out).mono ?_
    rintro e w' ⟨rfl, rfl⟩
    go_wp2
    go_ret3
    exact ⟨rfl, HB4.out⟩
  all_goals
    rw [hc, ifI1 _ (by decide), ifI1 _ (by decide)] at cG
    rw [hc, ifI1 _ (by decide), ifI1 _ (by decide)]
    obtain ⟨A, c, rfl⟩ := h.form
    clear ho hc h hll
    go_enter Try.func35, Try.ntmps35
    go_wp2_with (go_at_call 66; refine cG.mono ?_; rintro e w1 ⟨rfl, hb1⟩)
    go_ret3
    exact ⟨rfl, hb1⟩
end Go.Proofs.Ytennmnkjdchbhaa
