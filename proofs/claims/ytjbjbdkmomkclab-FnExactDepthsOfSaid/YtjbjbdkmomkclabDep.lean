/- DEPTHS: DepthsOf: spec and impl; impl: depthOf; listBy at a closure of one captured variable. -/
import Derived.Test.YtjbjbdkmomkclabNeed
import Derived.Test.YtjbjbdkmomkclabIBook
import Derived.Test.YtjbjbdkmomkclabLI64
namespace Go.Proofs.Ytjbjbdkmomkclab
set_option maxRecDepth 100000
open Go.RowKit
set_option linter.unusedVariables false
set_option linter.unusedSimpArgs false
/-- How deep a page is. -/
def dpZ (L : List Stp) (i : Nat) : Int := ((chL L i).length : Int) - 1
theorem dpZ_end {L : List Stp} {p : Nat} (h : (tAt L p).1.1 = 0) : dpZ L p = 0 := by unfold dpZ; rw [chL_end h]; rfl
theorem dpZ_step {L : List Stp} (ho : okSts L = true) {p : Nat} (hp : p < L.length) (h : (tAt L p).1.1 ≠ 0) : dpZ L p = dpZ L (tAt L p).1.2.1.toNat + 1 := by
  unfold dpZ; rw [chL_step ho hp h, List.length_cons]; omega
theorem chL_pos (L : List Stp) (p : Nat) : 1 ≤ (chL L p).length := by
  unfold chL
  cases p with
  | zero => simp [chN]
  | succ p => simp [chN]
theorem dpZ_in {L : List Stp} (ho : okSts L = true) {p : Nat} (hp : p < L.length) : 0 ≤ dpZ L p ∧ dpZ L p ≤ 40 := by
  have h1 := chL_pos L p
  have h2 := chL_len ho p hp
  have h3 := (okSts_iff.1 ho).1
  unfold dpZ
  omega
def dpL (L : List Stp) : List Int := tab (dpZ L) L.length
theorem dp_if_len (L : List Stp) : (ifL (okStC L) (dpL L)).length ≤ 1000 := by
  rcases okStC_cases L with ⟨_, hc⟩ | ⟨ho, hc⟩
  · rw [hc, ifL1 _ (by decide)]; simp
  · rw [hc, ifL0]; unfold dpL; rw [tab_length]; have := (okSts_iff.1 ho).1; omega
theorem own_cellI {w : World} {base g cap n : Nat} {t : TypeId} {l : List Int} (h : OwnL (eI .i64) w base t (.slice (some ⟨g, 0, none⟩) n cap) l) {i : Nat} {x : Int} (hi : l[i]? = some x) : w.cell? ⟨g, i, none⟩ = some (.int .i64 x) := by
  rcases h.form with ⟨h, _⟩ | ⟨g', cap', R, hv, hb, hg, hc, hm, hr⟩
  · cases h
  · injection hv with h1 h2 h3
    injection h1 with h1
    injection h1 with h1
    subst h1
    rw [Row.cell hr]
    have h9 := Enc.cells_get (E := eI .i64) l i x hi 0 (.int .i64 x) rfl
    rw [show i * (eI .i64).n + 0 = i by show i * 1 + 0 = i; omega] at h9
    simp only [List.getElem?_toArray]
    rw [List.getElem?_append_left (List.getElem?_eq_some_iff.1 h9).1, h9]
theorem tab_getI {F : Nat → Int} {n i : Nat} (h : i < n) : (tab F n)[i]? = some (F i) := tab_get F h
set_option maxHeartbeats 2000000 in
theorem specDepths_any (v : Value) (L : List Stp) (w : World) (hL : ltSt L) (hn : L.length ≤ 1000000) (h : StsAt w w.heap.size v L) :
    Calls Try.prog 21 #[v] w (GivesL (eI .i64) 2 (ifL (okStC L) (dpL L)) (okStC L) w) := by
  have cO := specOkS_any v L w hL hn h
  rcases okStC_cases L with ⟨ho, hc⟩ | ⟨ho, hc⟩
  · rw [hc, ifL1 _ (by decide)]
    rw [ho] at cO
    obtain ⟨A, c, rfl⟩ := h.form
    clear h ho hc
    go_enter Try.func21, Try.ntmps21
    go_wp2_with (go_at_call 46; refine cO.mono ?_; rintro e w2 ⟨rfl, hb2⟩; have hm := OwnL.made (E := (eI .i64)) w2 w.heap.size 2 hb2.size; replace hb2 := hb2.alloc hb2.size (.cells #[] 2))
    go_ret2
    exact ⟨_, rfl, hm, hb2⟩
  · rw [hc, ifL0]
    rw [ho] at cO
    have hq40 := (okSts_iff.1 ho).1
    obtain ⟨A, c, rfl, h1, h2, hA⟩ := h
    unfold maxLen at h2
    clear hc
    go_enter Try.func21, Try.ntmps21
    go_wp2_with (go_at_call 46; refine cO.mono ?_; rintro e w2 ⟨rfl, hb2⟩; have hm := OwnL.made (E := (eI .i64)) w2 w.heap.size 2 hb2.size; replace hb2 := hb2.alloc hb2.size (.cells #[] 2))
    generalize w2.alloc _ = w3 at *
    go_loopw [4, 5] (fun u i wr => ∃ k : Nat, k ≤ L.length ∧ i = .int .i64 k ∧ OwnL (eI .i64) wr w.heap.size 2 u (tab (dpZ L) k) ∧ Below w.heap.size w wr) (fun _ i _ => L.length - (intOf i).toNat)
    case atStart => exact ⟨0, by omega, rfl, hm, hb2⟩
    case round =>
      clear hm hb2
      obtain ⟨k, hk, rfl, hown, hb⟩ := hrel
      by_cases hlt : k < L.length
      · obtain ⟨b1, o1, rfl, hb1, r1⟩ := hA (by omega)
        obtain ⟨z, r, sz⟩ := r1 k hlt
        have g := range_below r hb hb1
        have c0 := st_cell0 g
        have c1 := st_cell1 g
        clear hA r1 r sz g
        by_cases hw : (tAt L k).1.1 = 0
        · have d0 : ((tAt L k).1.1 != 0) = false := by simp [hw]
          have hdp := dpZ_end hw
          have hzl : (tab (dpZ L) k).length ≤ 1000 := by rw [tab_length]; omega
          have HD := Lib.hid hdp
          clear hdp hw
          generalize (tAt L k).1 = hd at *
          go_wp2_with (at_builtin; refine wpList_append_one rfl _ _ 38 rfl w.heap.size 2 Try.underlying38 infoI64 rfl (by decide) (by omega) (hown.alloc _) rfl (0 : Int) rfl (range_new _ _ _) (by omega) (by have := hb.size; simp <;> omega) ?_; intro v' w4 hown' hgrow)
          go_roundw
          case rel =>
            go_light
            refine ⟨k + 1, by omega, by go_num, ?_, (hown.alloc _).grown_below (hb.alloc hb.size _) hgrow (Nat.le_refl _) (by have := hb.size; simp <;> omega)⟩
            rw [tab_succ, HD.out]; exact hown'
          case measure => simp [intOf]; omega
        · have d0 : ((tAt L k).1.1 != 0) = true := by simpa using hw
          have hpg := ok_page ho hlt hw
          have hst := dpZ_step ho hlt hw
          obtain ⟨Q, hQ⟩ := Int.eq_ofNat_of_zero_le hpg.1
          rw [hQ, Int.toNat_natCast] at hst
          have hQk : Q < k := by omega
          have hdq := dpZ_in ho (p := Q) (by omega)
          have kw : IntKind.i64.wrap (dpZ L Q + 1) = dpZ L k := by rw [hst]; exact IntWalk.i64_in _ (by omega)
          have hzl : (tab (dpZ L) k).length ≤ 1000 := by rw [tab_length]; omega
          rcases hown.form with ⟨_, h9⟩ | ⟨g4, cap, R, rfl, hgb, hgl, hcap, hcm, _⟩
          · have := congrArg List.length h9
            rw [tab_length] at this
            simp at this
            omega
          unfold maxLen at hcm
          rw [tab_length] at hcap
          have hvl : (tab (dpZ L) k).length = k := tab_length _ _
          have cx := own_cellI hown (tab_getI hQk)
          rw [hvl] at hown
          clear hst hw hpg hvl
          generalize (tAt L k).1 = hd at *
          obtain ⟨x0, x1, x2, x3⟩ := hd
          simp only at hQ d0 c0 c1
          subst hQ
          generalize dpZ L Q = dq at *
          rw [tab_length]
          go_wp2_with (at_builtin; refine wpList_append_one rfl _ _ 38 rfl w.heap.size 2 Try.underlying38 infoI64 rfl (by decide) (by omega) (hown.alloc _) rfl (dpZ L k) rfl (range_new _ _ _) (by omega) (by have := hb.size; simp <;> omega) ?_; intro v' w4 hown' hgrow)
          go_roundw
          case rel =>
            go_light
            refine ⟨k + 1, by omega, by go_num, ?_, (hown.alloc _).grown_below (hb.alloc hb.size _) hgrow (Nat.le_refl _) (by have := hb.size; simp <;> omega)⟩
            rw [tab_succ]; exact hown'
          case measure => simp [intOf]; omega
      · have hkl : k = L.length := by omega
        subst hkl
        clear hA
        go_wp2
        go_ret2
        exact ⟨_, rfl, hown, hb⟩
set_option maxHeartbeats 400000 in
theorem depthOf_any (v : Value) (L : List Stp) (p : Nat) (w : World) (ho : okSts L = true) (hp : p < L.length) (h : StsAt w w.heap.size v L) :
    Calls Try.prog 61 #[v, .int .i64 (p : Int)] w fun e w' => e = .returned (.int .i64 (dpZ L p)) ∧ Below w.heap.size w w' := by
  have cN := needed_any v L p w ho hp h
  have hd := dpZ_in ho hp
  have kw : IntKind.i64.wrap (((chL L p).length : Int) - 1) = dpZ L p := IntWalk.i64_in _ (by unfold dpZ at hd; omega)
  obtain ⟨A, c, rfl⟩ := h.form
  clear h hd
  go_enter Try.func61, Try.ntmps61
  go_wp2_with fail
  refine cN.mono ?_
  rintro e w2 ⟨u, rfl, hown, hb2⟩
  obtain ⟨A2, c2, rfl⟩ := hown.val
  clear hown
  go_wp2
  go_ret
  exact ⟨rfl, hb2⟩
set_option maxHeartbeats 400000 in
theorem listByD_i64 (n : Int) (fid : FuncId) (c1 : Value) (F : Nat → Int) (w : World) (hn1 : -1 ≤ n) (hn2 : n ≤ 1000000)
    (hcall : ∀ x w, (callFunc fid #[.int .i64 x, c1]).run Try.prog w = .ok (.enter fid #[.int .i64 x, c1]) w)
    (hbody : ∀ i : Nat, (i : Int) < n → ∀ w1, Below w.heap.size w w1 → Calls Try.prog fid #[.int .i64 i, c1] w1 fun e w2 => e = .returned (.int .i64 (F i)) ∧ Below w1.heap.size w1 w2) :
    Calls Try.prog 59 #[.int .i64 n, .func (.func fid) #[] #[c1]] w (GivesV (eI .i64) 2 (tab F n.toNat) w) := by
  have hown := OwnL.nil_ (E := (eI .i64)) w w.heap.size 2
  have HB := Lib.hid hbody
  clear hbody
  go_enter Try.func59, Try.ntmps59
  go_wp2
  go_loopw [5, 8] (fun u i wr => ∃ k : Nat, k ≤ n.toNat ∧ i = .int .i64 k ∧ OwnL (eI .i64) wr w.heap.size 2 u (tab F k) ∧ Below w.heap.size w wr) (fun _ i _ => n.toNat - (intOf i).toNat)
  case atStart => exact ⟨0, by omega, rfl, hown, Below.refl _ _⟩
  case round =>
    clear hown
    obtain ⟨k, hk, rfl, hown, hb⟩ := hrel
    by_cases hlt : (k : Int) < n
    · go_wp2_with fail
      refine (HB.out k hlt wr hb).mono ?_
      rintro e w3 ⟨rfl, hb3⟩
      replace hb := grown_below hb hb3 hb.size
      replace hown := hown.below hb3
      clear hb3
      go_wp2_with (at_builtin; refine wpList_append_one rfl _ _ 38 rfl w.heap.size 2 Try.underlying38 infoI64 rfl (by decide) (by omega) (hown.alloc _) rfl (F k) rfl (range_new _ _ _) (by rw [tab_length]; omega) (by have := hb.size; simp; omega) ?_; intro v' w4 hown' hgrow)
      go_roundw
      case rel =>
        go_light
        refine ⟨k + 1, by omega, by go_num, ?_, (hown.alloc _).grown_below (hb.alloc hb.size _) hgrow (Nat.le_refl _) (by have := hb.size; simp; omega)⟩
        rw [tab_succ]; exact hown'
      case measure => simp [intOf]; omega
    · have hkn : k = n.toNat := by omega
      subst hkn
      go_wp2
      go_ret
      exact ⟨_, rfl, hown, hb⟩
set_option maxHeartbeats 1000000 in
theorem implDepths_any (v : Value) (L : List Stp) (w : World) (hL : ltSt L) (hn : L.length ≤ 1000000) (h : StsAt w w.heap.size v L) :
    Calls Try.prog 22 #[v] w (GivesL (eI .i64) 2 (ifL (okStC L) (dpL L)) (okStC L) w) := by
  obtain ⟨A, c, rfl⟩ := h.form
  have a1 := Row.new w 31 #[.slice A L.length c]
  have h0 := (Below.refl w.heap.size w).alloc (Nat.le_refl _) (.cells #[.slice A L.length c] 31)
  have cO := fun w' (hb : Below w.heap.size w w') => implValidSteps_any _ L w' hL hn (h.later hb)
  rcases okStC_cases L with ⟨ho, hc⟩ | ⟨ho, hc⟩
  · rw [hc, ifL1 _ (by decide)]
    rw [ho] at cO
    clear h ho hc
    go_enter Try.func22, Try.ntmps22
    go_wp2_with (go_at_call 58; refine (cO _ h0).mono ?_; rintro e w2 ⟨rfl, hb2⟩; replace h0 := grown_below h0 hb2 h0.size)
    go_ret2
    exact ⟨_, rfl, OwnL.nil_ _ _ _, h0⟩
  · rw [hc, ifL0]
    rw [ho] at cO
    have cD := fun p w' (hp : p < L.length) (hb : Below w.heap.size w w') => depthOf_any _ L p w' ho hp (h.later hb)
    have CD := Lib.hid cD
    clear h hc cD
    go_enter Try.func22, Try.ntmps22
    go_wp2_with (go_at_call 58; refine (cO _ h0).mono ?_; rintro e w2 ⟨rfl, hb2⟩; replace a1 := Row.below a1 hb2 (Row.lt a1); replace h0 := grown_below h0 hb2 h0.size; have k0 : w2.cell? ⟨w.heap.size, 0, none⟩ = some (.slice A L.length c) := Row.cell a1 0; clear hb2 cO)
    have cJ := listByD_i64 (L.length : Int) 60 (.pointer (some ⟨w.heap.size, 0, none⟩)) (dpZ L) w2 (by omega) (by omega) (fun x w => by kernel_rfl) (fun i hi w1 hb1 => by
      have k1 : w1.cell? ⟨w.heap.size, 0, none⟩ = some (.slice A L.length c) := Row.cell (Row.below a1 hb1 (Row.lt a1)) 0
      have cD := CD.out i w1 (by omega) (grown_below h0 hb1 h0.size)
      go_enter Try.func60, Try.ntmps60
      go_wp2_with (go_at_call 61; refine cD.mono ?_; rintro e w3 ⟨rfl, hb3⟩)
      go_ret
      exact ⟨rfl, hb3⟩)
    rw [Int.toNat_natCast] at cJ
    refine cJ.mono ?_
    rintro e w4 ⟨u, rfl, hown, hb4⟩
    go_wp2
    go_ret2
    exact ⟨_, rfl, hown.mono h0.size, grown_below h0 hb4 h0.size⟩
end Go.Proofs.Ytjbjbdkmomkclab
