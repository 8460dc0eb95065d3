/- ORDERS. spec: IsOrder, l04Ordered, l04Pages, ReorderBook, l04All, OrderJumps. -/
import Derived.Test.YtennmnkjdchbhaaSOrd
import Derived.Test.YtennmnkjdchbhaaSJumps
import Derived.Test.YtennmnkjdchbhaaEvery
namespace Go.Proofs.Ytennmnkjdchbhaa
set_option maxRecDepth 100000
open Go.RowKit
set_option linter.unusedVariables false
set_option linter.unusedSimpArgs false
set_option maxHeartbeats 1000000 in
theorem specPages_any (v u : Value) (L : List (Nat → Nat)) (O : List Int) (w : World) (hO : ∀ i, i < O.length → 0 ≤ nAt O i ∧ nAt O i < L.length) (hl : O.length ≤ 1000) (h : SlAt eFr w w.heap.size v L) (h2 : SlAt (eI .i64) w w.heap.size u O) :
    Calls Try.prog 52 #[v, u] w (GivesV eFr 50 (pgL L O) w) := by
  obtain ⟨A, c, rfl, h1, h3, hA⟩ := h
  obtain ⟨B, d, rfl, h4, h5, hB⟩ := h2
  unfold maxLen at h3 h5
  have hm := OwnL.made (E := eFr) w w.heap.size 50 (Nat.le_refl _)
  have h0 := (Below.refl w.heap.size w).alloc (Nat.le_refl _) (.cells #[] 50)
  go_enter Try.func52, Try.ntmps52
  go_wp2
  go_loopw [5, 6] (fun u i wr => ∃ k : Nat, k ≤ O.length ∧ i = .int .i64 k ∧ OwnL eFr wr w.heap.size 50 u (tab (fun i => fAt L (nAt O i).toNat) k) ∧ Below w.heap.size w wr) (fun _ i _ => O.length - (intOf i).toNat)
  case atStart => exact ⟨0, by omega, rfl, hm, h0⟩
  case round =>
    clear hm h0
    obtain ⟨k, hk, rfl, hown, hb⟩ := hrel
    by_cases hlt : k < O.length
    · obtain ⟨b2, o2, rfl, hb2, r2⟩ := hB (by omega)
      have c1 := int_cell (range_below r2 hb hb2) hlt
      rw [show O.getD k 0 = nAt O k from rfl] at c1
      have hp := hO k hlt
      have hst := tab_succ (fun i => fAt L (nAt O i).toNat) k
      obtain ⟨p, hq⟩ := Int.eq_ofNat_of_zero_le hp.1
      rw [hq] at c1 hp hst
      rw [Int.toNat_natCast] at hst
      have hpl : p < L.length := by omega
      obtain ⟨b1, o1, rfl, hb1, r1⟩ := hA (by omega)
      have g1 := range_below (range_part r1 (fAt_get hpl)) hb hb1
      rw [eFr_n] at g1
      have hll : (tab (fun i => fAt L (nAt O i).toNat) k).length ≤ 1000 := by rw [tab_length]; omega
      have HST := Lib.hid hst
      clear hA hB r1 r2 hst hp hq hO
      go_wp2_with (first | (refine wpList_load_at rfl 50 48 _ rfl _ _ rfl g1 Try.underlying50 (by kernel_rfl) ?_) | (refine wpList_build1 (v := .agg (FC (fAt L p))) (cs := FC (fAt L p)) rfl 28 50 _ rfl rfl (fun w => run_build_frs w (fAt L p)) ?_) | (at_builtin; refine wpList_append_one rfl _ _ 28 rfl w.heap.size 50 Try.underlying28 infoFrL rfl (by decide) (by omega) (hown.alloc (.cells (FC (fAt L p)) 50)) rfl (fAt L p) rfl (range_new _ _ (FC (fAt L p))) (by omega) (by have := hb.size; simp; omega) ?_; intro v' w4 hown' hgrow))
      go_roundw
      case rel =>
        go_light
        refine ⟨k + 1, by omega, by go_num, ?_, (hown.alloc _).grown_below (hb.alloc hb.size _) hgrow (Nat.le_refl _) (by have := hb.size; simp; omega)⟩
        rw [HST.out]; exact hown'
      case measure => simp [intOf]; omega
    · have hkl : k = O.length := by omega
      subst hkl
      clear hA hB
      go_wp2
      go_ret
      exact ⟨_, rfl, hown, hb⟩
def isV (L : List (Nat → Nat)) (O : List Int) : Bool := okB L && isOB L.length O
theorem specIsOrder_any (v u : Value) (L : List (Nat → Nat)) (O : List Int) (w : World) (h : SlAt eFr w w.heap.size v L) (h2 : SlAt (eI .i64) w w.heap.size u O) :
    Calls Try.prog 14 #[v, u] w fun e w' => e = .returned (.tuple #[.bool (isV L O), .int .i64 (okBC L)]) ∧ Below w.heap.size w w' := by
  have cO := specOk_any v L w h
  obtain ⟨A, c, rfl⟩ := h.form
  unfold isV
  rcases okBC_cases L with ⟨ho, hc⟩ | ⟨ho, hc⟩
  · rw [ho] at cO ⊢
    rw [hc]
    clear ho hc h
    go_enter Try.func14, Try.ntmps14
    go_wp2_with (go_at_call 46; refine cO.mono ?_; rintro e w' ⟨rfl, rfl⟩)
    go_ret2
    exact ⟨rfl, Below.refl _ _⟩
  · have hlen := okB_len ho
    have cL := l04Order_any u O L.length w (by omega) h2
    rw [ho] at cO ⊢
    rw [hc, Bool.true_and]
    clear ho hc h h2
    generalize isOB L.length O = q at *
    go_enter Try.func14, Try.ntmps14
    go_wp2_with (first | (go_at_call 46; refine cO.mono ?_; rintro e w' ⟨rfl, rfl⟩) | (go_at_call 47; refine cL.mono ?_; rintro e w1 ⟨rfl, hb1⟩))
    go_ret2
    exact ⟨rfl, hb1⟩
theorem l04Ordered_any (v u : Value) (L : List (Nat → Nat)) (O : List Int) (w : World) (h : SlAt eFr w w.heap.size v L) (h2 : SlAt (eI .i64) w w.heap.size u O) :
    Calls Try.prog 51 #[v, u] w fun e w' => e = .returned (.int .i64 (orC L O)) ∧ Below w.heap.size w w' := by
  have cO := specOk_any v L w h
  obtain ⟨A, c, rfl⟩ := h.form
  rcases orC_cases L O with ⟨ho, hc⟩ | ⟨ho, hi, hc⟩ | ⟨ho, hi, hc⟩
  · rw [ho] at cO
    rw [hc]
    clear ho hc h
    go_enter Try.func51, Try.ntmps51
    go_wp2_with (go_at_call 46; refine cO.mono ?_; rintro e w' ⟨rfl, rfl⟩)
    go_ret
    exact ⟨rfl, Below.refl _ _⟩
  all_goals
    have hlen := okB_len ho
    have cL := l04Order_any u O L.length w (by omega) h2
    rw [ho] at cO
    rw [hi] at cL
    rw [hc]
    clear ho hc h h2 hi
    go_enter Try.func51, Try.ntmps51
    go_wp2_with (first | (go_at_call 46; refine cO.mono ?_; rintro e w' ⟨rfl, rfl⟩) | (go_at_call 47; refine cL.mono ?_; rintro e w1 ⟨rfl, hb1⟩))
    go_ret
    exact ⟨rfl, hb1⟩
set_option maxHeartbeats 400000 in
theorem specReorderBook_any (v u : Value) (L : List (Nat → Nat)) (O : List Int) (w : World) (h : SlAt eFr w w.heap.size v L) (h2 : SlAt (eI .i64) w w.heap.size u O) :
    Calls Try.prog 20 #[v, u] w (GivesL eFr 50 (ifL (orC L O) (pgL L O)) (orC L O) w) := by
  have cC := l04Ordered_any v u L O w h h2
  rcases orC_cases L O with ⟨ho, hc⟩ | ⟨ho, hi, hc⟩ | ⟨ho, hi, hc⟩
  case inr.inr =>
    have hlen := okB_len ho
    have hol := (isOB_iff.1 hi).1
    have cP := fun (w1 : World) (hb : Below w.heap.size w w1) => specPages_any v u L O w1 (fun i hi2 => isOB_in hi (by omega)) (by omega) (h.later hb) (h2.later hb)
    rw [hc, ifL0]
    rw [hc] at cC
    have CP := Lib.hid cP
    clear ho hc h h2 hi cP
    go_enter Try.func20, Try.ntmps20
    go_wp2_with (first | (go_at_call 51; refine cC.mono ?_; rintro e w1 ⟨rfl, hb1⟩) | (go_at_call 52; refine (CP.out _ hb1).mono ?_; rintro e w2 ⟨x, rfl, hown, hb2⟩))
    go_ret2
    exact ⟨_, rfl, hown.mono hb1.size, hb1.trans (hb2.mono hb1.size)⟩
  all_goals
    rw [hc, ifL1 _ (by decide)]
    rw [hc] at cC
    clear ho hc h h2
    go_enter Try.func20, Try.ntmps20
    go_wp2_with (go_at_call 51; refine cC.mono ?_; rintro e w1 ⟨rfl, hb1⟩)
    go_ret2
    exact ⟨_, rfl, OwnL.made (E := eFr) w1 w.heap.size 50 hb1.size, hb1.alloc hb1.size _⟩
theorem l04All_any (v : Value) (L : List (Nat → Nat)) (w : World) (hL : ltL L) (ho : okB L = true) (h : SlAt eFr w w.heap.size v L) :
    Calls Try.prog 55 #[v] w fun e w' => e = .returned (.int .i64 (sumI (jumpsL L))) ∧ Below w.heap.size w w' := by
  have cJ := jumps_any v L w hL ho h
  have hlen := okB_len ho
  have cS := fun (u : Value) (W : World) (hu : SlAt (eI .i64) W W.heap.size u (jumpsL L)) => sum_any u (jumpsL L) 192 W (by decide) (by rw [jumpsL_length]; omega) (jumpsL_bounds L) hu
  have CS := Lib.hid cS
  obtain ⟨A, c, rfl⟩ := h.form
  clear h cS ho
  generalize jumpsL L = l at *
  go_enter Try.func55, Try.ntmps55
  go_wp2_with (first | (go_at_call 64; refine cJ.mono ?_; rintro e w1 ⟨x, rfl, hown, hb1⟩) | (go_at_call 87; refine (CS.out _ _ (hown.sl (by decide))).mono ?_; rintro e w2 ⟨rfl, rfl⟩))
  go_ret
  exact ⟨rfl, hb1⟩
def ojV (L : List (Nat → Nat)) (O : List Int) : Int := ifI (orC L O) (sumI (jumpsL (pgL L O)))
set_option maxHeartbeats 400000 in
theorem specOrderJumps_any (v u : Value) (L : List (Nat → Nat)) (O : List Int) (w : World) (hL : ltL L) (h : SlAt eFr w w.heap.size v L) (h2 : SlAt (eI .i64) w w.heap.size u O) :
    Calls Try.prog 30 #[v, u] w fun e w' => e = .returned (.tuple #[.int .i64 (ojV L O), .int .i64 (orC L O)]) ∧ Below w.heap.size w w' := by
  have cC := l04Ordered_any v u L O w h h2
  unfold ojV
  rcases orC_cases L O with ⟨ho, hc⟩ | ⟨ho, hi, hc⟩ | ⟨ho, hi, hc⟩
  case inr.inr =>
    have hlen := okB_len ho
    have hol := (isOB_iff.1 hi).1
    have cP := fun (w1 : World) (hb : Below w.heap.size w w1) => specPages_any v u L O w1 (fun i hi2 => isOB_in hi (by omega)) (by omega) (h.later hb) (h2.later hb)
    have cA := fun (x : Value) (W : World) (hx : SlAt eFr W W.heap.size x (pgL L O)) => l04All_any x (pgL L O) W (pgL_lt hL O) (pgL_ok ho hi) hx
    rw [hc, ifI0]
    rw [hc] at cC
    have CP := Lib.hid cP
    have CA := Lib.hid cA
    clear ho hc h h2 hi cP cA
    generalize sumI (jumpsL (pgL L O)) = s at *
    go_enter Try.func30, Try.ntmps30
    go_wp2_with (first | (go_at_call 51; refine cC.mono ?_; rintro e w1 ⟨rfl, hb1⟩) | (go_at_call 52; refine (CP.out _ hb1).mono ?_; rintro e w2 ⟨x, rfl, hown, hb2⟩) | (go_at_call 55; refine (CA.out _ _ (hown.sl (by decide))).mono ?_; rintro e w3 ⟨rfl, hb3⟩))
    go_ret2
    exact ⟨rfl, grown_below (hb1.trans (hb2.mono hb1.size)) hb3 (Nat.le_trans hb1.size hb2.size)⟩
  all_goals
    rw [hc, ifI1 _ (by decide)]
    rw [hc] at cC
    clear ho hc h h2
    go_enter Try.func30, Try.ntmps30
    go_wp2_with (go_at_call 51; refine cC.mono ?_; rintro e w1 ⟨rfl, hb1⟩)
    go_ret2
    exact ⟨rfl, hb1⟩
end Go.Proofs.Ytennmnkjdchbhaa
