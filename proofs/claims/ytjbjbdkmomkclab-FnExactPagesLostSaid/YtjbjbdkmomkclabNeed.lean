/- NEEDED PAGES: the pages that a page stands on; impl: neededFor, checkStep; spec: l06Asked. -/
import Derived.Test.YtjbjbdkmomkclabStv4
import Derived.Test.YtjbjbdkmomkclabSBook
import Derived.WalkMore
import Derived.ScopeJumps
namespace Go.Proofs.Ytjbjbdkmomkclab
set_option maxRecDepth 100000
open Go.RowKit
set_option linter.unusedVariables false
set_option linter.unusedSimpArgs false
theorem ok_page {L : List Stp} (ho : okSts L = true) {p : Nat} (hp : p < L.length) (h0 : (tAt L p).1.1 ≠ 0) : 0 ≤ (tAt L p).1.2.1 ∧ (tAt L p).1.2.1 < (p : Int) := by
  have h := (okSts_iff.1 ho).2 p hp
  unfold okStpB at h
  rw [Bool.and_eq_true] at h
  have h1 := h.1
  unfold okBase at h1
  rw [if_neg h0] at h1
  split at h1
  · rw [Bool.and_eq_true] at h1
    have := inB_iff.1 h1.1
    omega
  · split at h1
    · rw [Bool.and_eq_true, Bool.and_eq_true] at h1
      have := inB_iff.1 h1.1.1
      omega
    · cases h1
def chN (L : List Stp) : Nat → Nat → List Int
  | 0, p => [(p : Int)]
  | f + 1, p => (p : Int) :: (if (tAt L p).1.1 = 0 then [] else chN L f (tAt L p).1.2.1.toNat)
/-- The pages that are needed for a page: itself, its base, and so on. -/
def chL (L : List Stp) (p : Nat) : List Int := chN L p p
theorem chN_stab {L : List Stp} (ho : okSts L = true) : ∀ (p : Nat), p < L.length → ∀ f, p ≤ f → chN L f p = chN L p p := by
  intro p
  induction p using Nat.strongRecOn with
  | _ p ih =>
    intro hp f hf
    match f, p, hf with
    | 0, 0, _ => rfl
    | f + 1, 0, _ =>
      have h0 : (tAt L 0).1.1 = 0 := by
        by_cases h : (tAt L 0).1.1 = 0
        · exact h
        · have := ok_page ho hp h; omega
      show (_ :: _) = _
      rw [if_pos h0]; rfl
    | f + 1, p + 1, hf =>
      show (_ :: _) = (_ :: _)
      by_cases h : (tAt L (p + 1)).1.1 = 0
      · rw [if_pos h, if_pos h]
      · have hb := ok_page ho hp h
        rw [if_neg h, if_neg h, ih _ (by omega) (by omega) f (by omega), ih _ (by omega) (by omega) p (by omega)]
theorem chL_end {L : List Stp} {p : Nat} (h : (tAt L p).1.1 = 0) : chL L p = [(p : Int)] := by
  unfold chL
  cases p with
  | zero => rfl
  | succ p => show (_ :: _) = _; rw [if_pos h]
theorem chL_step {L : List Stp} (ho : okSts L = true) {p : Nat} (hp : p < L.length) (h : (tAt L p).1.1 ≠ 0) : chL L p = (p : Int) :: chL L (tAt L p).1.2.1.toNat := by
  have hb := ok_page ho hp h
  unfold chL
  cases p with
  | zero => omega
  | succ p =>
    show (_ :: _) = (_ :: _)
    rw [if_neg h, chN_stab ho _ (by omega) p (by omega)]
theorem chL_len {L : List Stp} (ho : okSts L = true) : ∀ p, p < L.length → (chL L p).length ≤ p + 1 := by
  intro p
  induction p using Nat.strongRecOn with
  | _ p ih =>
    intro hp
    by_cases h : (tAt L p).1.1 = 0
    · rw [chL_end h]; simp
    · have hb := ok_page ho hp h
      rw [chL_step ho hp h, List.length_cons]
      have := ih (tAt L p).1.2.1.toNat (by omega) (by omega)
      omega
theorem chL_mem {L : List Stp} (ho : okSts L = true) : ∀ p, p < L.length → ∀ x ∈ chL L p, 0 ≤ x ∧ x < (L.length : Int) := by
  intro p
  induction p using Nat.strongRecOn with
  | _ p ih =>
    intro hp x hx
    by_cases h : (tAt L p).1.1 = 0
    · rw [chL_end h] at hx; simp at hx; omega
    · have hb := ok_page ho hp h
      rw [chL_step ho hp h] at hx
      rcases List.mem_cons.1 hx with rfl | hx
      · omega
      · exact ih _ (by omega) (by omega) x hx
def asZ (L : List Stp) (p : Int) : Int := if okSts L then (if 0 ≤ p ∧ p < (L.length : Int) then 0 else 2) else 1
theorem asZ_cases (L : List Stp) (p : Int) : (okSts L = false ∧ asZ L p = 1) ∨ (okSts L = true ∧ ¬ (0 ≤ p ∧ p < (L.length : Int)) ∧ asZ L p = 2) ∨ (okSts L = true ∧ (0 ≤ p ∧ p < (L.length : Int)) ∧ asZ L p = 0) := by
  unfold asZ
  cases okSts L with
  | false => exact .inl ⟨rfl, rfl⟩
  | true =>
    by_cases h : 0 ≤ p ∧ p < (L.length : Int)
    · exact .inr (.inr ⟨rfl, h, by rw [if_pos rfl, if_pos h]⟩)
    · exact .inr (.inl ⟨rfl, h, by rw [if_pos rfl, if_neg h]⟩)
theorem specAsked_any (v : Value) (L : List Stp) (p : Int) (w : World) (hL : ltSt L) (hn : L.length ≤ 1000000) (h : StsAt w w.heap.size v L) :
    Calls Try.prog 63 #[v, .int .i64 p] w fun e w' => e = .returned (.int .i64 (asZ L p)) ∧ Below w.heap.size w w' := by
  have cO := specOkS_any v L w hL hn h
  have cI := fun w => in_any p 0 ((L.length : Int) - 1) w
  have kw : IntKind.i64.wrap ((L.length : Int) - 1) = (L.length : Int) - 1 := IntWalk.i64_in _ (by omega)
  obtain ⟨A, c, rfl⟩ := h.form
  clear h
  rcases asZ_cases L p with ⟨ho, hc⟩ | ⟨ho, hp, hc⟩ | ⟨ho, hp, hc⟩
  · rw [hc]
    rw [ho] at cO
    clear ho hc cI
    go_enter Try.func63, Try.ntmps63
    go_wp2_with (go_at_call 46; refine cO.mono ?_; rintro e w2 ⟨rfl, hb2⟩)
    go_ret
    exact ⟨rfl, hb2⟩
  · rw [hc]
    rw [ho] at cO
    have hi : inB p 0 ((L.length : Int) - 1) = false := inB_false.2 (by omega)
    rw [hi] at cI
    clear ho hc hp hi
    go_enter Try.func63, Try.ntmps63
    go_wp2_with (first | (go_at_call 46; refine cO.mono ?_; rintro e w2 ⟨rfl, hb2⟩) | (go_at_call 78; refine (cI _).mono ?_; rintro e w' ⟨rfl, rfl⟩))
    go_ret
    exact ⟨rfl, hb2⟩
  · rw [hc]
    rw [ho] at cO
    have hi : inB p 0 ((L.length : Int) - 1) = true := inB_iff.2 (by omega)
    rw [hi] at cI
    clear ho hc hp hi
    go_enter Try.func63, Try.ntmps63
    go_wp2_with (first | (go_at_call 46; refine cO.mono ?_; rintro e w2 ⟨rfl, hb2⟩) | (go_at_call 78; refine (cI _).mono ?_; rintro e w' ⟨rfl, rfl⟩))
    go_ret
    exact ⟨rfl, hb2⟩
theorem checkStep_any (v : Value) (L : List Stp) (p : Int) (w : World) (hL : ltSt L) (hn : L.length ≤ 1000000) (h : StsAt w w.heap.size v L) :
    Calls Try.prog 65 #[v, .int .i64 p] w fun e w' => e = .returned (.int .i64 (asZ L p)) ∧ Below w.heap.size w w' := by
  have cO := implValidSteps_any v L w hL hn h
  obtain ⟨A, c, rfl⟩ := h.form
  clear h
  rcases asZ_cases L p with ⟨ho, hc⟩ | ⟨ho, hp, hc⟩ | ⟨ho, hp, hc⟩
  · rw [hc]
    rw [ho] at cO
    clear ho hc
    go_enter Try.func65, Try.ntmps65
    go_wp2_with (go_at_call 58; refine cO.mono ?_; rintro e w2 ⟨rfl, hb2⟩)
    go_ret
    exact ⟨rfl, hb2⟩
  · rw [hc]
    rw [ho] at cO
    clear ho hc
    by_cases h0 : p < 0
    · go_enter Try.func65, Try.ntmps65
      go_wp2_with (go_at_call 58; refine cO.mono ?_; rintro e w2 ⟨rfl, hb2⟩)
      go_ret
      exact ⟨rfl, hb2⟩
    · have h1 : (L.length : Int) ≤ p := by omega
      clear hp
      go_enter Try.func65, Try.ntmps65
      go_wp2_with (go_at_call 58; refine cO.mono ?_; rintro e w2 ⟨rfl, hb2⟩)
      go_ret
      exact ⟨rfl, hb2⟩
  · rw [hc]
    rw [ho] at cO
    obtain ⟨h0, h1⟩ := hp
    have h0' : ¬ p < 0 := by omega
    have h1' : ¬ (L.length : Int) ≤ p := by omega
    clear ho hc
    go_enter Try.func65, Try.ntmps65
    go_wp2_with (go_at_call 58; refine cO.mono ?_; rintro e w2 ⟨rfl, hb2⟩)
    go_ret
    exact ⟨rfl, hb2⟩
set_option maxHeartbeats 2000000 in
theorem needed_any (v : Value) (L : List Stp) (p : Nat) (w : World) (ho : okSts L = true) (hp : p < L.length) (h : StsAt w w.heap.size v L) :
    Calls Try.prog 67 #[v, .int .i64 (p : Int)] w (GivesV (eI .i64) 2 (chL L p) w) := by
  obtain ⟨A, c, rfl, h1, h2, hA⟩ := h
  obtain ⟨b1, o1, rfl, hb1, r1⟩ := hA (by omega)
  unfold maxLen at h2
  have HA := Lib.hid r1
  clear hA r1
  generalize hAA : (some (⟨b1, o1, none⟩ : Addr)) = A at *
  have hown := OwnL.nil_ (E := (eI .i64)) w w.heap.size 2
  subst hAA
  go_enter Try.func67, Try.ntmps67
  go_wp2
  refine wp_scope_jumps 0 (fun a' w' => ∃ (q : Nat) (u : Value) (acc : List Int) (u6 u7 u8 u9 u10 u11 u12 u13 u14 u15 u16 u17 u18 u19 u20 u21 : Value), a' = { tmps := #[.slice (some ⟨b1, o1, none⟩) L.length c, .int .i64 (q : Int), undef, undef, .slice none 0 0, u, u6, u7, u8, u9, u10, u11, u12, u13, u14, u15, u16, u17, u18, u19, u20, u21, undef], defers := [] } ∧ q < L.length ∧ acc ++ chL L q = chL L p ∧ OwnL (eI .i64) w' w.heap.size 2 u acc ∧ Below w.heap.size w w') (fun a' _ => (intOf (a'.tmps.getD 1 undef)).toNat) rfl ?_ ?_
  · go_wp2
    go_step3
    have hb := Below.refl w.heap.size w
    have hq := hp
    have hch : ([] : List Int) ++ chL L p = chL L p := rfl
    have hq40 := (okSts_iff.1 ho).1
    have hlen : ([] : List Int).length ≤ 1000 := by
      have h1 := congrArg List.length hch
      rw [List.length_append] at h1
      have := chL_len ho p hp
      omega
    obtain ⟨z, r, sz⟩ := HA.out p hq
    clear sz
    by_cases hw0 : (tAt L p).1.1 = 0
    · have d0 : ((tAt L p).1.1 != 0) = false := by simp [hw0]
      have hfin : ([] : List Int) ++ [(p : Int)] = chL L p := by rw [← hch, chL_end hw0]
      have HFIN := Lib.hid hfin
      clear hfin hch hw0
      generalize (tAt L p).1 = hd at *
      go_wp2_with (at_builtin; refine wpList_append_one rfl _ _ 38 rfl w.heap.size 2 Try.underlying38 infoI64 rfl (by decide) (by omega) (hown.alloc _) rfl (p : Int) rfl (range_new _ _ _) (by omega) (by have := hb.size; simp <;> omega) ?_; intro v' w4 hown' hgrow; have hb4 := (hown.alloc _).grown_below (hb.alloc hb.size _) hgrow (Nat.le_refl _) (by have := hb.size; simp <;> omega); have g := range_below r hb4 hb1; have c0 := st_cell0 g; have c1 := st_cell1 g; (try simp only at c0 c1); clear g)
      simp only [Exit.jump]
      go_ret
      rw [HFIN.out] at hown'
      exact ⟨_, rfl, hown', hb4⟩
    · have d0 : ((tAt L p).1.1 != 0) = true := by simpa using hw0
      have hpg := ok_page ho hq hw0
      have hst := chL_step ho hq hw0
      obtain ⟨Q, hQ⟩ := Int.eq_ofNat_of_zero_le hpg.1
      rw [hQ, Int.toNat_natCast] at hst
      have hQq : Q < p := by omega
      have hch2 : ([] : List Int) ++ [(p : Int)] ++ chL L Q = chL L p := by rw [← hch, hst]; simp
      have kw : IntKind.i64.wrap (tAt L p).1.2.1 = (Q : Int) := by rw [hQ]; exact IntWalk.i64_in _ (by omega)
      have HCH := Lib.hid hch2
      clear hch2 hch hst hw0 hpg
      generalize (tAt L p).1 = hd at *
      obtain ⟨x0, x1, x2, x3⟩ := hd
      simp only at hQ kw d0
      go_wp2_with (at_builtin; refine wpList_append_one rfl _ _ 38 rfl w.heap.size 2 Try.underlying38 infoI64 rfl (by decide) (by omega) (hown.alloc _) rfl (p : Int) rfl (range_new _ _ _) (by omega) (by have := hb.size; simp <;> omega) ?_; intro v' w4 hown' hgrow; have hb4 := (hown.alloc _).grown_below (hb.alloc hb.size _) hgrow (Nat.le_refl _) (by have := hb.size; simp <;> omega); have g := range_below r hb4 hb1; have c0 := st_cell0 g; have c1 := st_cell1 g; (try simp only at c0 c1); clear g)
      go_step3
      refine ⟨rfl, Q, _, _, _, _, _, _, _, _, _, _, _, _, _, _, _, _, _, _, rfl, by omega, HCH.out, hown', hb4⟩
  · rintro a' wr ⟨q, u, acc, u6, u7, u8, u9, u10, u11, u12, u13, u14, u15, u16, u17, u18, u19, u20, u21, rfl, hq, hch, hown, hb⟩
    have hq40 := (okSts_iff.1 ho).1
    have hlen : acc.length ≤ 1000 := by
      have h1 := congrArg List.length hch
      rw [List.length_append] at h1
      have := chL_len ho p hp
      omega
    obtain ⟨z, r, sz⟩ := HA.out q hq
    clear sz
    by_cases hw0 : (tAt L q).1.1 = 0
    · have d0 : ((tAt L q).1.1 != 0) = false := by simp [hw0]
      have hfin : acc ++ [(q : Int)] = chL L p := by rw [← hch, chL_end hw0]
      have HFIN := Lib.hid hfin
      clear hfin hch hw0
      generalize (tAt L q).1 = hd at *
      go_wp2_with (at_builtin; refine wpList_append_one rfl _ _ 38 rfl w.heap.size 2 Try.underlying38 infoI64 rfl (by decide) (by omega) (hown.alloc _) rfl (q : Int) rfl (range_new _ _ _) (by omega) (by have := hb.size; simp <;> omega) ?_; intro v' w4 hown' hgrow; have hb4 := (hown.alloc _).grown_below (hb.alloc hb.size _) hgrow (Nat.le_refl _) (by have := hb.size; simp <;> omega); have g := range_below r hb4 hb1; have c0 := st_cell0 g; have c1 := st_cell1 g; (try simp only at c0 c1); clear g)
      simp only [Exit.jump]
      go_ret
      rw [HFIN.out] at hown'
      exact ⟨_, rfl, hown', hb4⟩
    · have d0 : ((tAt L q).1.1 != 0) = true := by simpa using hw0
      have hpg := ok_page ho hq hw0
      have hst := chL_step ho hq hw0
      obtain ⟨Q, hQ⟩ := Int.eq_ofNat_of_zero_le hpg.1
      rw [hQ, Int.toNat_natCast] at hst
      have hQq : Q < q := by omega
      have hch2 : acc ++ [(q : Int)] ++ chL L Q = chL L p := by rw [← hch, hst]; simp
      have kw : IntKind.i64.wrap (tAt L q).1.2.1 = (Q : Int) := by rw [hQ]; exact IntWalk.i64_in _ (by omega)
      have HCH := Lib.hid hch2
      clear hch2 hch hst hw0 hpg
      generalize (tAt L q).1 = hd at *
      obtain ⟨x0, x1, x2, x3⟩ := hd
      simp only at hQ kw d0
      go_wp2_with (at_builtin; refine wpList_append_one rfl _ _ 38 rfl w.heap.size 2 Try.underlying38 infoI64 rfl (by decide) (by omega) (hown.alloc _) rfl (q : Int) rfl (range_new _ _ _) (by omega) (by have := hb.size; simp <;> omega) ?_; intro v' w4 hown' hgrow; have hb4 := (hown.alloc _).grown_below (hb.alloc hb.size _) hgrow (Nat.le_refl _) (by have := hb.size; simp <;> omega); have g := range_below r hb4 hb1; have c0 := st_cell0 g; have c1 := st_cell1 g; (try simp only at c0 c1); clear g)
      go_step3
      refine ⟨rfl, ⟨Q, _, _, _, _, _, _, _, _, _, _, _, _, _, _, _, _, _, _, rfl, by omega, HCH.out, hown', hb4⟩, ?_⟩
      simp [intOf]
      omega
end Go.Proofs.Ytjbjbdkmomkclab
