/- FillGap: spec and impl. -/
import Derived.Test.YtennmnkjdchbhaaPg
import Derived.Test.YtennmnkjdchbhaaSMor
import Derived.Test.YtennmnkjdchbhaaAppH
import Derived.Test.YtennmnkjdchbhaaJoin2
namespace Go.Proofs.Ytennmnkjdchbhaa
set_option maxRecDepth 100000
open Go.RowKit
set_option linter.unusedVariables false
set_option linter.unusedSimpArgs false
def fgC (L : List (Nat → Nat)) (p : Int) : Int := if pgC L p = 0 then (if p.toNat + 1 = L.length then 6 else if L.length = 40 then 3 else 0) else pgC L p
def fgL (L : List (Nat → Nat)) (p : Int) : List (Nat → Nat) := L.take (p.toNat + 1) ++ [morF (fAt L p.toNat) (fAt L (p.toNat + 1)) 1 2] ++ L.drop (p.toNat + 1)
theorem fg_if_len (L : List (Nat → Nat)) (p : Int) : (ifL (fgC L p) (fgL L p)).length ≤ 1000 := by
  unfold ifL
  split
  · rename_i h
    unfold fgC at h
    split at h
    · rcases pgC_cases L p with ⟨_, hc⟩ | ⟨_, _, hc⟩ | ⟨ho, _, hc⟩
      · omega
      · omega
      · unfold fgL; simp only [List.length_append, List.length_take, List.length_drop, List.length_cons, List.length_nil]; have := okB_len ho; omega
    · rename_i h0; exact absurd h h0
  · simp
theorem infoFrG : (Try.prog.info? 50).map (fun i => (i.zero, i.size, i.bytes)) = some (some (.agg (FC zeroF)), eFr.n, 24) := by kernel_rfl
theorem cellsFrG : Try.prog.cellsOf 50 = eFr.n := by kernel_rfl
theorem run_build_frsG (w : World) (f : Nat → Nat) : (Instr.buildSlice 28 1 #[(0, .agg (FC f))]).run Try.prog w = .ok (.slice (some ⟨w.heap.size, 0, none⟩) 1 1) (w.alloc (.cells (FC f) 50)) := by kernel_rfl
/-- A slice of a book, from one page on; up to one. -/
theorem run_slice_lo (A : Option Addr) (n c f : Nat) (hf : f ≤ n) (hn : n ≤ c) (w : World) : (Instr.slice 28 (.slice A n c) (some (.int .i64 (f : Int))) none none).run Try.prog w = .ok (.slice (if c = f then A else A.map (·.add (f * eFr.n))) (n - f) (c - f)) w := by
  obtain ⟨i0, hi, hz0, hz1, hz2⟩ := info_parts infoFrG
  have e1 : (0 : Int) ≤ (n : Int) ∧ (n : Int) ≤ (c : Int) := by omega
  have e2 : (0 : Int) ≤ (f : Int) ∧ (f : Int) ≤ (n : Int) := by omega
  simp only [Instr.slice, run_underlying Try.underlying28, Sem.run_bind, Result.andThen_ok, Instr.sliceBounds, Instr.sliceBound, asIntOf, Sem.run_pure, if_pos e1, if_pos e2, Int.toNat_natCast, run_sizeOf w hi, cellsFrG]
theorem run_slice_up (b o n c h : Nat) (hh : h ≤ c) (w : World) : (Instr.slice 28 (.slice (some ⟨b, o, none⟩) n c) none (some (.int .i64 (h : Int))) none).run Try.prog w = .ok (.slice (some ⟨b, o, none⟩) h c) w := by
  obtain ⟨i0, hi, _⟩ := info_parts infoFrG
  have h1 : (0 : Int) ≤ (h : Int) ∧ (h : Int) ≤ (c : Int) := by omega
  simp only [Instr.slice, run_underlying Try.underlying28, Sem.run_bind, Result.andThen_ok, Instr.sliceBounds, Instr.sliceBound, asIntOf, Sem.run_pure, if_pos h1, Int.toNat_natCast, run_sizeOf w hi, Nat.sub_zero, Nat.zero_mul]
  simp [Addr.add]
theorem SlAt.upto {α : Type} {E : Enc α} {w : World} {B b o c : Nat} {L : List α} (h : SlAt E w B (.slice (some ⟨b, o, none⟩) L.length c) L) {k : Nat} (hk : k ≤ L.length) (h0 : 0 < L.length) : SlAt E w B (.slice (some ⟨b, o, none⟩) k c) (L.take k) := by
  obtain ⟨A', c', he, h1, h2, hA⟩ := h
  cases he
  obtain ⟨b', o', he, hb, r⟩ := hA h0
  cases he
  have hl : (L.take k).length = k := by rw [List.length_take]; omega
  refine ⟨some ⟨b, o, none⟩, c, by rw [hl], by omega, h2, fun _ => ⟨b, o, rfl, hb, fun j u hu => r j u ?_⟩⟩
  rw [← Enc.cells_take, List.getElem?_take] at hu
  split at hu
  · exact hu
  · cases hu
set_option maxHeartbeats 4000000 in
theorem specFillGap_any (v : Value) (L : List (Nat → Nat)) (p : Int) (w : World) (hL : ltL L) (wf : (Lit.int .i64 p).wf = true) (h : SlAt eFr w w.heap.size v L) :
    Calls Try.prog 36 #[v, .int .i64 p] w (GivesL eFr 50 (ifL (fgC L p) (fgL L p)) (fgC L p) w) := by
  have cP := l04Page_any v L p w h
  have hm := OwnL.made (E := eFr) w w.heap.size 50 (Nat.le_refl _)
  have h0 := (Below.refl w.heap.size w).alloc (Nat.le_refl _) (.cells #[] 50)
  have hml := h.len
  unfold maxLen at hml
  by_cases hz : pgC L p = 0
  · obtain ⟨ho, hp⟩ : okB L = true ∧ hpB L p = true := by
      rcases pgC_cases L p with ⟨_, hc⟩ | ⟨_, _, hc⟩ | ⟨h1, h2, hc⟩
      · omega
      · omega
      · exact ⟨h1, h2⟩
    have hlen := okB_len ho
    have hp' := hpB_iff.1 hp
    rw [hz] at cP
    obtain ⟨q, rfl⟩ := Int.eq_ofNat_of_zero_le hp'.1
    have hq : q < L.length := by omega
    have hmc : fgC L q = if q + 1 = L.length then 6 else if L.length = 40 then 3 else 0 := if_pos hz
    have kw : IntKind.i64.wrap ((q : Int) + 1) = (q : Int) + 1 := IntWalk.i64_in _ (by omega)
    obtain ⟨A, c, rfl⟩ := h.form
    by_cases e1 : q + 1 = L.length
    · have hm6 : fgC L (q : Int) = 6 := by rw [hmc, if_pos e1]
      rw [hm6, ifL1 _ (by decide)]
      have d1 : ((q : Int) + 1 == (L.length : Int)) = true := by simp; omega
      clear hmc hm6 h e1 hz ho hp hp'
      go_enter Try.func36, Try.ntmps36
      go_wp2_with (go_at_call 70; refine cP.mono ?_; rintro e w' ⟨rfl, rfl⟩)
      go_ret2
      exact ⟨_, rfl, hm, h0⟩
    · have d1 : ((q : Int) + 1 == (L.length : Int)) = false := by simp; omega
      by_cases e2 : L.length = 40
      · have hm3 : fgC L (q : Int) = 3 := by rw [hmc, if_neg e1, if_pos e2]
        rw [hm3, ifL1 _ (by decide)]
        have d2 : ((L.length : Int) == 40) = true := by simp; omega
        clear hmc hm3 h e1 e2 hz ho hp hp'
        go_enter Try.func36, Try.ntmps36
        go_wp2_with (go_at_call 70; refine cP.mono ?_; rintro e w' ⟨rfl, rfl⟩)
        go_ret2
        exact ⟨_, rfl, hm, h0⟩
      · have hm0 : fgC L (q : Int) = 0 := by rw [hmc, if_neg e1, if_neg e2]
        have d2 : ((L.length : Int) == 40) = false := by simp; omega
        rw [hm0, ifL0]
        unfold fgL
        rw [Int.toNat_natCast]
        have kb : IntKind.i64.wrap ((q : Int) + 1) = ((q + 1 : Nat) : Int) := by rw [kw]; rfl
        have d3 : (((q + 1 : Nat) : Int) == (L.length : Int)) = false := d1
        clear d1
        have oq := (okB_iff.1 ho).2 q hq
        have ob := (okB_iff.1 ho).2 (q + 1) (by omega)
        have cM := fun W => specMorph_any (fAt L q) (fAt L (q + 1)) 1 2 (fAt_lt hL _) (fAt_lt hL _) oq ob (by decide) (by decide) (by decide) (by decide) W
        rw [show (1 : Int).toNat = 1 from rfl, show (2 : Int).toNat = 2 from rfl] at cM
        obtain ⟨A', c', he, h1, h2, hA⟩ := id h
        cases he
        obtain ⟨pb, po, rfl, hbb, r1⟩ := hA (by omega)
        have hlc : L.length ≤ c := h1
        have sU := h.upto (k := q + 1) (by omega) (by omega)
        have sD := h.part (f := q + 1) (t := L.length) (m := c) (by omega) (Nat.le_refl _) hlc (Nat.le_refl _)
        rw [List.take_of_length_le (by rw [List.length_drop]; omega)] at sD
        have q1 := run_slice_up pb po L.length c (q + 1) (by omega)
        have q2 := run_slice_lo (some ⟨pb, po, none⟩) L.length c (q + 1) (by omega) hlc
        have s1 := range_part r1 (fAt_get hq)
        have s2 := range_part r1 (fAt_get (show q + 1 < L.length by omega))
        rw [eFr_n] at s1 s2
        have hlT : (L.take (q + 1)).length ≤ 40 := by rw [List.length_take]; omega
        have hlD : (L.drop (q + 1)).length ≤ 40 := by rw [List.length_drop]; omega
        generalize morF (fAt L q) (fAt L (q + 1)) 1 2 = r at *
        generalize L.take (q + 1) = LT at *
        generalize L.drop (q + 1) = LD at *
        generalize (if c = q + 1 then (some ({ block := pb, off := po, spot := none } : Addr)) else Option.map (fun x : Addr => x.add ((q + 1) * eFr.n)) (some ⟨pb, po, none⟩)) = A2 at *
        generalize hqb : q + 1 = b at *
        have hbl : b < L.length := by omega
        have hz0 : 0 < L.length := by omega
        have CM := Lib.hid cM
        clear hmc hm0 cM hA r1 e1 e2 hz ho hp hp' oq ob h kw
        go_enter Try.func36, Try.ntmps36
        go_wp2_with (go_at_call 70; refine cP.mono ?_; rintro e w' ⟨rfl, rfl⟩)
        clear cP
        refine' wp_cut_4 _ (fun (g0 : Nat) (u2 : Value) (g3 : Nat) (u : Value) w' => OwnL eFr w' w.heap.size 50 u (LT ++ [r]) ∧ Below w.heap.size w w') ?hw ?kw
        case' hw =>
          refine wp_region_held_drew (S := fun w' => Below w.heap.size w w') (by kernel_rfl) (below_drew_refl w) (fun hS => ?_)
          generalize w.drew = v0 at hS ⊢
          refine held_take (i := 1) (v := ?_) rfl (by kernel_rfl) (by kernel_rfl) (by kernel_rfl) (fun _ _ _ h => nomatch h.1) (Or.inl ⟨by rfl, ?_⟩) hS ?_
          rotate_left
          · intro w hSw; go_simp; (try with_reducible rfl)
          try simp only [Act.put, List.setIfInBounds_toArray, List.set_cons_zero, List.set_cons_succ]
          refine held_take (i := 2) (v := ?_) rfl (by kernel_rfl) (by kernel_rfl) (by kernel_rfl) (fun _ _ _ h => nomatch h.1) (Or.inl ⟨by rfl, ?_⟩) hS ?_
          rotate_left
          · intro w hSw; go_simp; (try with_reducible rfl)
          try simp only [Act.put, List.setIfInBounds_toArray, List.set_cons_zero, List.set_cons_succ]
          refine held_take (i := 3) (v := ?_) rfl (by kernel_rfl) (by kernel_rfl) (by kernel_rfl) (fun _ _ _ h => nomatch h.1) (Or.inl ⟨by rfl, ?_⟩) hS ?_
          rotate_left
          · intro w hSw; go_simp; (try with_reducible rfl)
          try simp only [Act.put, List.setIfInBounds_toArray, List.set_cons_zero, List.set_cons_succ]
          refine held_take (i := 4) (v := ?_) rfl (by kernel_rfl) (by kernel_rfl) (by kernel_rfl) (fun _ _ _ h => nomatch h.1) (Or.inl ⟨by rfl, ?_⟩) hS ?_
          rotate_left
          · intro w hSw; go_simp; (try with_reducible rfl)
          try simp only [Act.put, List.setIfInBounds_toArray, List.set_cons_zero, List.set_cons_succ]
          refine held_take (i := 6) (v := ?_) rfl (by kernel_rfl) (by kernel_rfl) (by kernel_rfl) (fun _ _ _ h => nomatch h.1) (Or.inl ⟨by rfl, ?_⟩) hS ?_
          rotate_left
          · intro w hSw; go_simp; (try with_reducible rfl)
          try simp only [Act.put, List.setIfInBounds_toArray, List.set_cons_zero, List.set_cons_succ]
          refine held_take (i := 7) (v := ?_) rfl (by kernel_rfl) (by kernel_rfl) (by kernel_rfl) (fun _ _ _ h => nomatch h.1) (Or.inl ⟨by rfl, ?_⟩) hS ?_
          rotate_left
          · intro w hSw; go_simp; (try with_reducible rfl)
          try simp only [Act.put, List.setIfInBounds_toArray, List.set_cons_zero, List.set_cons_succ]
          refine held_take (i := 8) (v := ?_) rfl (by kernel_rfl) (by kernel_rfl) (by kernel_rfl) (fun _ _ _ h => nomatch h.1) (Or.inl ⟨by rfl, ?_⟩) hS ?_
          rotate_left
          · intro w hSw; go_simp; (try with_reducible rfl)
          try simp only [Act.put, List.setIfInBounds_toArray, List.set_cons_zero, List.set_cons_succ]
          refine held_take (i := 9) rfl (by kernel_rfl) (by kernel_rfl) (by kernel_rfl) (fun _ _ _ h => nomatch h.1) (yieldsIf_load_el (E := eFr) rfl 50 _ rfl _ _ rfl (fAt L q) (FC (fAt L q)) rfl (fun w' h => range_below s1 h hbb) Try.underlying50 rfl (by kernel_rfl)) hS ?_
          try simp only [Act.put, List.setIfInBounds_toArray, List.set_cons_zero, List.set_cons_succ]
          refine held_take (i := 10) (v := ?_) rfl (by kernel_rfl) (by kernel_rfl) (by kernel_rfl) (fun _ _ _ h => nomatch h.1) (Or.inl ⟨by rfl, ?_⟩) hS ?_
          rotate_left
          · intro w hSw; go_simp; (try with_reducible rfl)
          try simp only [Act.put, List.setIfInBounds_toArray, List.set_cons_zero, List.set_cons_succ]
          refine held_take (i := 11) (v := ?_) rfl (by kernel_rfl) (by kernel_rfl) (by kernel_rfl) (fun _ _ _ h => nomatch h.1) (Or.inl ⟨by rfl, ?_⟩) hS ?_
          rotate_left
          · intro w hSw; go_simp; (try with_reducible rfl)
          try simp only [Act.put, List.setIfInBounds_toArray, List.set_cons_zero, List.set_cons_succ]
          refine held_take (i := 12) (v := ?_) rfl (by kernel_rfl) (by kernel_rfl) (by kernel_rfl) (fun _ _ _ h => nomatch h.1) (Or.inl ⟨by rfl, ?_⟩) hS ?_
          rotate_left
          · intro w hSw; go_simp; (try with_reducible rfl)
          try simp only [Act.put, List.setIfInBounds_toArray, List.set_cons_zero, List.set_cons_succ]
          refine held_take (i := 13) (v := ?_) rfl (by kernel_rfl) (by kernel_rfl) (by kernel_rfl) (fun _ _ _ h => nomatch h.1) (Or.inl ⟨by rfl, ?_⟩) hS ?_
          rotate_left
          · intro w hSw; go_simp; (try with_reducible rfl)
          try simp only [Act.put, List.setIfInBounds_toArray, List.set_cons_zero, List.set_cons_succ]
          refine held_take (i := 14) rfl (by kernel_rfl) (by kernel_rfl) (by kernel_rfl) (fun _ _ _ h => nomatch h.1) (yieldsIf_load_el (E := eFr) rfl 50 _ rfl _ _ rfl (fAt L b) (FC (fAt L b)) rfl (fun w' h => range_below s2 h hbb) Try.underlying50 rfl (by kernel_rfl)) hS ?_
          try simp only [Act.put, List.setIfInBounds_toArray, List.set_cons_zero, List.set_cons_succ]
          refine wpAnyH_ready (rs := [0]) (by kernel_rfl) (by simp) ?_
          refine held_cons rfl (fun K hK => ?_) AllReadyH.nil
          go_simp
          have o1 := OwnL.made (E := eFr) v0 w.heap.size 50 hS.size
          refine hK.out _ _ (hS.alloc hS.size _) (fun hS' => ?_)
          clear hK K hS; have hS := hS'; clear hS'
          generalize (v0.alloc (.cells #[] 50)) = v1 at *
          generalize v0.heap.size = g0 at *
          try simp only [Act.put, List.setIfInBounds_toArray, List.set_cons_zero, List.set_cons_succ]
          refine wpAnyH_ready (rs := [5]) (by kernel_rfl) (by simp) ?_
          refine held_cons rfl (fun K hK => ?_) AllReadyH.nil
          rw [if_pos (by rfl)]
          refine wp_append_slH _ _ 28 rfl w.heap.size 50 Try.underlying28 infoFrG rfl (by decide) (by omega) o1 (by rfl) (by rfl) (sU.below hS) (by simp; omega) hS.size ?_
          intro u2 v2 o2 hg2
          rw [List.nil_append] at o2
          refine hK.out _ _ (o1.grown_below hS hg2 (Nat.le_refl _) hS.size) (fun hS' => ?_)
          clear hK K hS o1 hg2; have hS := hS'; clear hS'
          clear v1
          try simp only [Act.put, List.setIfInBounds_toArray, List.set_cons_zero, List.set_cons_succ]
          refine wpAnyH_ready (rs := [15]) (by kernel_rfl) (by simp) ?_
          refine held_cons rfl (fun K hK => ?_) AllReadyH.nil
          go_simp
          go_at_call 71
          refine (CM.out _).mono ?_
          rintro e v3 ⟨rfl, hb3⟩
          refine hK.out _ _ (grown_below hS hb3 hS.size) (fun hS' => ?_)
          replace o2 := o2.below hb3
          clear hK K hS hb3; have hS := hS'; clear hS'
          clear v2
          try simp only [Act.put, List.setIfInBounds_toArray, List.set_cons_zero, List.set_cons_succ]
          refine wpAnyH_ready (rs := [16]) (by kernel_rfl) (by simp) ?_
          refine held_cons rfl (fun K hK => ?_) AllReadyH.nil
          rw [if_pos (by rfl)]
          refine wp_build1H 28 50 _ (by rfl) (v := .agg (FC r)) (cs := FC r) (by rfl) (fun w => run_build_frsG w r) ?_
          refine hK.out _ _ (hS.alloc hS.size _) (fun hS' => ?_)
          have rg := range_new v3 50 (FC r)
          replace o2 := o2.alloc (.cells (FC r) 50)
          clear hK K hS; have hS := hS'; clear hS'
          generalize (v3.alloc (.cells (FC r) 50)) = v4 at *
          generalize v3.heap.size = g3 at *
          try simp only [Act.put, List.setIfInBounds_toArray, List.set_cons_zero, List.set_cons_succ]
          refine wpAnyH_ready (rs := [17]) (by kernel_rfl) (by simp) ?_
          refine held_cons rfl (fun K hK => ?_) AllReadyH.nil
          rw [if_pos (by rfl)]
          refine wp_append_oneH _ _ 28 rfl w.heap.size 50 Try.underlying28 infoFrG rfl (by decide) (by omega) o2 (by rfl) r (by rfl) rg (by omega) hS.size ?_
          intro u5 v5 o5 hg5
          refine hK.out _ _ (o2.grown_below hS hg5 (Nat.le_refl _) hS.size) (fun hS' => ?_)
          clear hK K hS o2 hg5; have hS := hS'; clear hS'
          clear rg
          clear v4
          try simp only [Act.put, List.setIfInBounds_toArray, List.set_cons_zero, List.set_cons_succ]
          refine held_take (i := 18) (v := ?_) rfl (by kernel_rfl) (by kernel_rfl) (by kernel_rfl) (fun _ _ _ h => nomatch h.1) (Or.inl ⟨by rfl, ?_⟩) hS ?_
          rotate_left
          · intro w hSw; go_simp; (try with_reducible rfl)
          try simp only [Act.put, List.setIfInBounds_toArray, List.set_cons_zero, List.set_cons_succ]
          refine wpAnyH_done (by kernel_rfl) ⟨rfl, g0, u2, g3, u5, ?_, o5, hS⟩ _
          exact rfl
        rintro g0 u2 g3 u w1 ⟨o1, hb1⟩
        have kb2 := kb
        go_wp2_with (at_builtin; refine wpList_append_sl rfl _ _ 28 rfl w.heap.size 50 Try.underlying28 infoFrG rfl (by decide) (by omega) o1 rfl rfl (sD.below hb1) (by simp; omega) hb1.size ?_; intro v9 w9 o9 hg9)
        go_ret2
        exact ⟨_, rfl, o9, o1.grown_below hb1 hg9 (Nat.le_refl _) hb1.size⟩
  · have hc : fgC L p = pgC L p := if_neg hz
    rw [hc, ifL1 _ hz]
    obtain ⟨A, c, rfl⟩ := h.form
    have d0 : (pgC L p != 0) = true := by simpa using hz
    clear hc h hz
    generalize pgC L p = cc at *
    go_enter Try.func36, Try.ntmps36
    go_wp2_with (go_at_call 70; refine cP.mono ?_; rintro e w' ⟨rfl, rfl⟩)
    go_ret2
    exact ⟨_, rfl, hm, h0⟩
theorem row_three (w : World) (u v x : Value) (t : TypeId) : Row (w.alloc (.cells #[u, v, x] t)) w.heap.size t [u, v, x].toArray := Row.new w t #[u, v, x]
set_option maxHeartbeats 4000000 in
theorem implFillGap_any (v : Value) (L : List (Nat → Nat)) (p : Int) (w : World) (hL : ltL L) (wf : (Lit.int .i64 p).wf = true) (h : SlAt eFr w w.heap.size v L) :
    Calls Try.prog 37 #[v, .int .i64 p] w (GivesL eFr 50 (ifL (fgC L p) (fgL L p)) (fgC L p) w) := by
  have cP := checkPage_any v L p w hL h
  have hml := h.len
  unfold maxLen at hml
  by_cases hz : pgC L p = 0
  · obtain ⟨ho, hp⟩ : okB L = true ∧ hpB L p = true := by
      rcases pgC_cases L p with ⟨_, hc⟩ | ⟨_, _, hc⟩ | ⟨h1, h2, hc⟩
      · omega
      · omega
      · exact ⟨h1, h2⟩
    have hlen := okB_len ho
    have hp' := hpB_iff.1 hp
    rw [hz] at cP
    obtain ⟨q, rfl⟩ := Int.eq_ofNat_of_zero_le hp'.1
    have hq : q < L.length := by omega
    have hmc : fgC L q = if q + 1 = L.length then 6 else if L.length = 40 then 3 else 0 := if_pos hz
    have kw : IntKind.i64.wrap ((q : Int) + 1) = (q : Int) + 1 := IntWalk.i64_in _ (by omega)
    obtain ⟨A, c, rfl⟩ := h.form
    have cH := fun w => hasPage_any A c L ((q : Int) + 1) w
    by_cases e1 : q + 1 = L.length
    · have hm6 : fgC L (q : Int) = 6 := by rw [hmc, if_pos e1]
      rw [hm6, ifL1 _ (by decide)]
      rw [hpB_false (p := (q : Int) + 1) |>.2 (.inr (by omega))] at cH
      clear hmc hm6 h e1 hz ho hp hp'
      go_enter Try.func37, Try.ntmps37
      go_wp2_with (first | (go_at_call 72; refine cP.mono ?_; rintro e w1 ⟨rfl, hb1⟩) | (go_at_call 73; refine (cH _).mono ?_; rintro e w' ⟨rfl, rfl⟩))
      go_ret2
      exact ⟨_, rfl, OwnL.nil_ _ _ _, hb1⟩
    · rw [hpB_iff (p := (q : Int) + 1) |>.2 ⟨by omega, by omega⟩] at cH
      by_cases e2 : L.length = 40
      · have hm3 : fgC L (q : Int) = 3 := by rw [hmc, if_neg e1, if_pos e2]
        rw [hm3, ifL1 _ (by decide)]
        have d2 : ((L.length : Int) == 40) = true := by simp; omega
        clear hmc hm3 h e1 e2 hz ho hp hp'
        go_enter Try.func37, Try.ntmps37
        go_wp2_with (first | (go_at_call 72; refine cP.mono ?_; rintro e w1 ⟨rfl, hb1⟩) | (go_at_call 73; refine (cH _).mono ?_; rintro e w' ⟨rfl, rfl⟩))
        go_ret2
        exact ⟨_, rfl, OwnL.nil_ _ _ _, hb1⟩
      · have hm0 : fgC L (q : Int) = 0 := by rw [hmc, if_neg e1, if_neg e2]
        have d2 : ((L.length : Int) == 40) = false := by simp; omega
        rw [hm0, ifL0]
        unfold fgL
        rw [Int.toNat_natCast]
        have kb : IntKind.i64.wrap ((q : Int) + 1) = ((q + 1 : Nat) : Int) := by rw [kw]; rfl
        have cM := fun W => morphed_any (fAt L q) (fAt L (q + 1)) 1 2 (fAt_lt hL _) (fAt_lt hL _) (by decide) (by decide) (by decide) (by decide) W
        rw [show (1 : Int).toNat = 1 from rfl, show (2 : Int).toNat = 2 from rfl] at cM
        obtain ⟨A', c', he, h1, h2, hA⟩ := id h
        cases he
        obtain ⟨pb, po, rfl, hbb, r1⟩ := hA (by omega)
        have hlc : L.length ≤ c := h1
        have sU := h.upto (k := q + 1) (by omega) (by omega)
        have sD := h.part (f := q + 1) (t := L.length) (m := c) (by omega) (Nat.le_refl _) hlc (Nat.le_refl _)
        rw [List.take_of_length_le (by rw [List.length_drop]; omega)] at sD
        have q1 := run_slice_up pb po L.length c (q + 1) (by omega)
        have q2 := run_slice_lo (some ⟨pb, po, none⟩) L.length c (q + 1) (by omega) hlc
        have s1 := range_part r1 (fAt_get hq)
        have s2 := range_part r1 (fAt_get (show q + 1 < L.length by omega))
        rw [eFr_n] at s1 s2
        have hlT : (L.take (q + 1)).length ≤ 40 := by rw [List.length_take]; omega
        have hlD : (L.drop (q + 1)).length ≤ 40 := by rw [List.length_drop]; omega
        have cH2 : ∀ w, Calls Try.prog 73 #[.slice (some ⟨pb, po, none⟩) L.length c, .int .i64 ((q + 1 : Nat) : Int)] w fun e w' => e = .returned (.bool true) ∧ w = w' := cH
        generalize morF (fAt L q) (fAt L (q + 1)) 1 2 = r at *
        generalize L.take (q + 1) = LT at *
        generalize L.drop (q + 1) = LD at *
        generalize (if c = q + 1 then (some ({ block := pb, off := po, spot := none } : Addr)) else Option.map (fun x : Addr => x.add ((q + 1) * eFr.n)) (some ⟨pb, po, none⟩)) = A2 at *
        generalize hqb : q + 1 = b at *
        have hbl : b < L.length := by omega
        have hz0 : 0 < L.length := by omega
        have CM := Lib.hid cM
        clear hmc hm0 cM hA r1 e1 e2 hz ho hp hp' h kw cH
        go_enter Try.func37, Try.ntmps37
        go_wp2_with (first | (go_at_call 72; refine cP.mono ?_; rintro e w1 ⟨rfl, hb1⟩) | (go_at_call 73; refine (cH2 _).mono ?_; rintro e w' ⟨rfl, rfl⟩))
        replace s1 := range_below s1 hb1 hbb
        replace s2 := range_below s2 hb1 hbb
        have lb : pb < w1.heap.size := Nat.lt_of_lt_of_le hbb hb1.size
        clear cP cH2
        refine' wp_cut_blk _ (fun g w' => Blk w' g 50 r ∧ Below w1.heap.size w1 w' ∧ w1.heap.size ≤ g) ?hw ?kw
        case' hw =>
          refine wp_region_held_drew (S := fun w' => Below w1.heap.size w1 w') (by kernel_rfl) (below_drew_refl w1) (fun hS => ?_)
          generalize w1.drew = v0 at hS ⊢
          refine held_take (i := 0) (v := ?_) rfl (by kernel_rfl) (by kernel_rfl) (by kernel_rfl) (fun _ _ _ h => nomatch h.1) (Or.inl ⟨by rfl, ?_⟩) hS ?_
          rotate_left
          · intro w hSw; go_simp; (try with_reducible rfl)
          try simp only [Act.put, List.setIfInBounds_toArray, List.set_cons_zero, List.set_cons_succ]
          refine held_take (i := 1) (v := ?_) rfl (by kernel_rfl) (by kernel_rfl) (by kernel_rfl) (fun _ _ _ h => nomatch h.1) (Or.inl ⟨by rfl, ?_⟩) hS ?_
          rotate_left
          · intro w hSw; go_simp; (try with_reducible rfl)
          try simp only [Act.put, List.setIfInBounds_toArray, List.set_cons_zero, List.set_cons_succ]
          refine held_take (i := 2) (v := ?_) rfl (by kernel_rfl) (by kernel_rfl) (by kernel_rfl) (fun _ _ _ h => nomatch h.1) (Or.inl ⟨by rfl, ?_⟩) hS ?_
          rotate_left
          · intro w hSw; go_simp; (try with_reducible rfl)
          try simp only [Act.put, List.setIfInBounds_toArray, List.set_cons_zero, List.set_cons_succ]
          refine held_take (i := 3) rfl (by kernel_rfl) (by kernel_rfl) (by kernel_rfl) (fun _ _ _ h => nomatch h.1) (yieldsIf_load_el (E := eFr) rfl 50 _ rfl _ _ rfl (fAt L q) (FC (fAt L q)) rfl (fun w' h => range_below s1 h lb) Try.underlying50 rfl (by kernel_rfl)) hS ?_
          try simp only [Act.put, List.setIfInBounds_toArray, List.set_cons_zero, List.set_cons_succ]
          refine held_take (i := 4) (v := ?_) rfl (by kernel_rfl) (by kernel_rfl) (by kernel_rfl) (fun _ _ _ h => nomatch h.1) (Or.inl ⟨by rfl, ?_⟩) hS ?_
          rotate_left
          · intro w hSw; go_simp; (try with_reducible rfl)
          try simp only [Act.put, List.setIfInBounds_toArray, List.set_cons_zero, List.set_cons_succ]
          refine held_take (i := 5) (v := ?_) rfl (by kernel_rfl) (by kernel_rfl) (by kernel_rfl) (fun _ _ _ h => nomatch h.1) (Or.inl ⟨by rfl, ?_⟩) hS ?_
          rotate_left
          · intro w hSw; go_simp; (try with_reducible rfl)
          try simp only [Act.put, List.setIfInBounds_toArray, List.set_cons_zero, List.set_cons_succ]
          refine held_take (i := 6) (v := ?_) rfl (by kernel_rfl) (by kernel_rfl) (by kernel_rfl) (fun _ _ _ h => nomatch h.1) (Or.inl ⟨by rfl, ?_⟩) hS ?_
          rotate_left
          · intro w hSw; go_simp; (try with_reducible rfl)
          try simp only [Act.put, List.setIfInBounds_toArray, List.set_cons_zero, List.set_cons_succ]
          refine held_take (i := 7) rfl (by kernel_rfl) (by kernel_rfl) (by kernel_rfl) (fun _ _ _ h => nomatch h.1) (yieldsIf_load_el (E := eFr) rfl 50 _ rfl _ _ rfl (fAt L b) (FC (fAt L b)) rfl (fun w' h => range_below s2 h lb) Try.underlying50 rfl (by kernel_rfl)) hS ?_
          try simp only [Act.put, List.setIfInBounds_toArray, List.set_cons_zero, List.set_cons_succ]
          refine wpAnyH_ready (rs := [8, 9]) (by kernel_rfl) (by simp) ?_
          refine held_cons rfl (fun K hK => ?_) ?_
          · skip
            go_simp
            go_at_call 74
            refine (CM.out _).mono ?_
            rintro e v1 ⟨rfl, hb3⟩
            refine hK.out _ _ (grown_below hS hb3 hS.size) (fun hS' => ?_)
            try (replace bn := bn.below hb3 bn.lt)
            clear hK K hS hb3; have hS := hS'; clear hS'
            clear v0
            try simp only [Act.put, List.setIfInBounds_toArray, List.set_cons_zero, List.set_cons_succ]
            refine wpAnyH_ready (rs := [9]) (by kernel_rfl) (by simp) ?_
            refine held_cons rfl (fun K hK => ?_) AllReadyH.nil
            go_simp
            refine hK.out _ _ (hS.alloc hS.size _) (fun hS' => ?_)
            have bn := Blk.new v1 50 zeroF
            rw [FC_zero] at bn
            have hg : w1.heap.size ≤ v1.heap.size := hS.size
            clear hK K hS; have hS := hS'; clear hS'
            generalize (v1.alloc _) = v2 at *
            generalize v1.heap.size = g at *
            clear v1
            try simp only [Act.put, List.setIfInBounds_toArray, List.set_cons_zero, List.set_cons_succ]
            refine wpAnyH_ready (rs := [10]) (by kernel_rfl) (by simp) ?_
            refine held_cons rfl (fun K hK => ?_) AllReadyH.nil
            rw [if_pos (by rfl)]
            refine wp_store_fr 50 _ _ rfl g rfl bn rfl (by kernel_rfl) ?_
            refine hK.out _ _ (below_setRow hS hg _) (fun hS' => ?_)
            replace bn := bn.setRow r
            clear hK K
            try simp only [Act.put, List.setIfInBounds_toArray, List.set_cons_zero, List.set_cons_succ]
            refine wpAnyH_done (by kernel_rfl) ⟨rfl, g, ?_, bn, hS', hg⟩ _
            exact rfl
          refine held_cons rfl (fun K hK => ?_) AllReadyH.nil
          go_simp
          refine hK.out _ _ (hS.alloc hS.size _) (fun hS' => ?_)
          have bn := Blk.new v0 50 zeroF
          rw [FC_zero] at bn
          have hg : w1.heap.size ≤ v0.heap.size := hS.size
          clear hK K hS; have hS := hS'; clear hS'
          generalize (v0.alloc _) = v1 at *
          generalize v0.heap.size = g at *
          clear v0
          try simp only [Act.put, List.setIfInBounds_toArray, List.set_cons_zero, List.set_cons_succ]
          refine wpAnyH_ready (rs := [8]) (by kernel_rfl) (by simp) ?_
          refine held_cons rfl (fun K hK => ?_) AllReadyH.nil
          go_simp
          go_at_call 74
          refine (CM.out _).mono ?_
          rintro e v2 ⟨rfl, hb3⟩
          refine hK.out _ _ (grown_below hS hb3 hS.size) (fun hS' => ?_)
          try (replace bn := bn.below hb3 bn.lt)
          clear hK K hS hb3; have hS := hS'; clear hS'
          clear v1
          try simp only [Act.put, List.setIfInBounds_toArray, List.set_cons_zero, List.set_cons_succ]
          refine wpAnyH_ready (rs := [10]) (by kernel_rfl) (by simp) ?_
          refine held_cons rfl (fun K hK => ?_) AllReadyH.nil
          rw [if_pos (by rfl)]
          refine wp_store_fr 50 _ _ rfl g rfl bn rfl (by kernel_rfl) ?_
          refine hK.out _ _ (below_setRow hS hg _) (fun hS' => ?_)
          replace bn := bn.setRow r
          clear hK K
          try simp only [Act.put, List.setIfInBounds_toArray, List.set_cons_zero, List.set_cons_succ]
          refine wpAnyH_done (by kernel_rfl) ⟨rfl, g, ?_, bn, hS', hg⟩ _
          exact rfl
        rintro g w2 ⟨bg, hB, hg⟩
        replace hb1 := grown_below hb1 hB hb1.size
        clear s1 s2 hB lb
        go_wp2_with fail
        refine' wp_cut_3 _ (fun (g3 : Nat) (g4 : Nat) (u : Value) w' => OwnL eFr w' w.heap.size 50 u (LT ++ [r] ++ LD) ∧ Below w2.heap.size w2 w') ?hx ?kx
        case' hx =>
          refine wp_region_held_drew (S := fun w' => Below w2.heap.size w2 w') (by kernel_rfl) (below_drew_refl w2) (fun hS => ?_)
          generalize w2.drew = v0 at hS ⊢
          refine held_take (i := 0) (v := ?_) rfl (by kernel_rfl) (by kernel_rfl) (by kernel_rfl) (fun _ _ _ h => nomatch h.1) (Or.inl ⟨by rfl, ?_⟩) hS ?_
          rotate_left
          · intro w hSw; go_simp; (try with_reducible rfl)
          try simp only [Act.put, List.setIfInBounds_toArray, List.set_cons_zero, List.set_cons_succ]
          refine held_take (i := 1) (v := ?_) rfl (by kernel_rfl) (by kernel_rfl) (by kernel_rfl) (fun _ _ _ h => nomatch h.1) (Or.inl ⟨by rfl, ?_⟩) hS ?_
          rotate_left
          · intro w hSw; go_simp; (try with_reducible rfl)
          try simp only [Act.put, List.setIfInBounds_toArray, List.set_cons_zero, List.set_cons_succ]
          refine held_take (i := 2) (v := ?_) rfl (by kernel_rfl) (by kernel_rfl) (by kernel_rfl) (fun _ _ _ h => nomatch h.1) (Or.inl ⟨by rfl, ?_⟩) hS ?_
          rotate_left
          · intro w hSw; go_simp; (try with_reducible rfl)
          try simp only [Act.put, List.setIfInBounds_toArray, List.set_cons_zero, List.set_cons_succ]
          refine held_take (i := 3) rfl (by kernel_rfl) (by kernel_rfl) (by kernel_rfl) (fun _ _ _ h => nomatch h.1) (yieldsIf_load_fr rfl 50 _ _ rfl _ rfl (fun w' h => bg.below h bg.lt) Try.underlying50 (by kernel_rfl)) hS ?_
          try simp only [Act.put, List.setIfInBounds_toArray, List.set_cons_zero, List.set_cons_succ]
          refine held_take (i := 5) (v := ?_) rfl (by kernel_rfl) (by kernel_rfl) (by kernel_rfl) (fun _ _ _ h => nomatch h.1) (Or.inl ⟨by rfl, ?_⟩) hS ?_
          rotate_left
          · intro w hSw; go_simp; (try with_reducible rfl)
          try simp only [Act.put, List.setIfInBounds_toArray, List.set_cons_zero, List.set_cons_succ]
          refine held_take (i := 6) (v := ?_) rfl (by kernel_rfl) (by kernel_rfl) (by kernel_rfl) (fun _ _ _ h => nomatch h.1) (Or.inl ⟨by rfl, ?_⟩) hS ?_
          rotate_left
          · intro w hSw; go_simp; (try with_reducible rfl)
          try simp only [Act.put, List.setIfInBounds_toArray, List.set_cons_zero, List.set_cons_succ]
          refine held_take (i := 7) (v := ?_) rfl (by kernel_rfl) (by kernel_rfl) (by kernel_rfl) (fun _ _ _ h => nomatch h.1) (Or.inl ⟨by rfl, ?_⟩) hS ?_
          rotate_left
          · intro w hSw; go_simp; (try with_reducible rfl)
          try simp only [Act.put, List.setIfInBounds_toArray, List.set_cons_zero, List.set_cons_succ]
          refine wpAnyH_ready (rs := [4]) (by kernel_rfl) (by simp) ?_
          refine held_cons rfl (fun K hK => ?_) AllReadyH.nil
          rw [if_pos (by rfl)]
          refine wp_build1H 28 50 _ (by rfl) (v := .agg (FC r)) (cs := FC r) (by rfl) (fun w => run_build_frsG w r) ?_
          refine hK.out _ _ (hS.alloc hS.size _) (fun hS' => ?_)
          have hr : Held eFr (v0.alloc (.cells (FC r) 50)) v0.heap.size 50 [r] := by
            unfold Held; rw [show (eFr.cells [r]).toArray = FC r by rw [Enc.cells_one]; rfl]; exact Row.new v0 50 (FC r)
          have sR := hr.sl (n := 1) (c := 1) (by simp) (by omega) (by unfold maxLen; omega)
          rw [List.take_of_length_le (by simp)] at sR
          clear hK K hS hr; have hS := hS'; clear hS'
          generalize (v0.alloc (.cells (FC r) 50)) = v1 at *
          generalize v0.heap.size = g3 at *
          try simp only [Act.put, List.setIfInBounds_toArray, List.set_cons_zero, List.set_cons_succ]
          refine wpAnyH_ready (rs := [8]) (by kernel_rfl) (by simp) ?_
          refine held_cons rfl (fun K hK => ?_) AllReadyH.nil
          go_simp
          refine hK.out _ _ (hS.alloc hS.size _) (fun hS' => ?_)
          have bU := (hb1.trans (hS.mono hb1.size)).trans ((Below.refl v1.heap.size v1).alloc (Nat.le_refl _) (.cells #[.slice (some ⟨pb, po, none⟩) b c, .slice (some ⟨g3, 0, none⟩) 1 1, .slice A2 (L.length - b) (c - b)] 28) |>.mono (Nat.le_trans hb1.size hS.size))
          have cC := concat_any v1.heap.size [.slice (some ⟨pb, po, none⟩) b c, .slice (some ⟨g3, 0, none⟩) 1 1, .slice A2 (L.length - b) (c - b)] [LT, [r], LD] (v1.alloc (.cells #[.slice (some ⟨pb, po, none⟩) b c, .slice (some ⟨g3, 0, none⟩) 1 1, .slice A2 (L.length - b) (c - b)] 28)) rfl (row_three _ _ _ _ _) (fun i a b' h3 h4 => by
            match i, h3, h4 with
            | 0, h3, h4 => simp at h3 h4; subst h3; subst h4; exact SlAt.later sU bU
            | 1, h3, h4 => simp at h3 h4; subst h3; subst h4; exact (sR.alloc (Nat.le_refl _) _).mono (by simp)
            | 2, h3, h4 => simp at h3 h4; subst h3; subst h4; exact SlAt.later sD bU) (by simp; omega) (by simp)
          rw [show [LT, [r], LD].flatten = LT ++ [r] ++ LD by simp] at cC
          have CC := Lib.hid cC
          clear hK K hS cC; have hS := hS'; clear hS'
          generalize (v1.alloc _) = v2 at *
          generalize v1.heap.size = g4 at *
          try simp only [Act.put, List.setIfInBounds_toArray, List.set_cons_zero, List.set_cons_succ]
          refine wpAnyH_ready (rs := [9]) (by kernel_rfl) (by simp) ?_
          refine held_cons rfl (fun K hK => ?_) AllReadyH.nil
          go_simp
          go_at_call 75
          refine (CC.out).mono ?_
          rintro e v3 ⟨u, rfl, hown, hb4⟩
          refine hK.out _ _ (grown_below hS hb4 hS.size) (fun hS' => ?_)
          replace hown := hown.mono (Nat.le_trans hb1.size hS.size)
          clear hK K hS hb4 bU CC; have hS := hS'; clear hS'
          clear sR v2
          try simp only [Act.put, List.setIfInBounds_toArray, List.set_cons_zero, List.set_cons_succ]
          refine held_take (i := 10) (v := ?_) rfl (by kernel_rfl) (by kernel_rfl) (by kernel_rfl) (fun _ _ _ h => nomatch h.1) (Or.inl ⟨by rfl, ?_⟩) hS ?_
          rotate_left
          · intro w hSw; go_simp; (try with_reducible rfl)
          try simp only [Act.put, List.setIfInBounds_toArray, List.set_cons_zero, List.set_cons_succ]
          refine held_take (i := 11) (v := ?_) rfl (by kernel_rfl) (by kernel_rfl) (by kernel_rfl) (fun _ _ _ h => nomatch h.1) (Or.inl ⟨by rfl, ?_⟩) hS ?_
          rotate_left
          · intro w hSw; go_simp; (try with_reducible rfl)
          try simp only [Act.put, List.setIfInBounds_toArray, List.set_cons_zero, List.set_cons_succ]
          refine wpAnyH_done (by kernel_rfl) ⟨rfl, g3, g4, u, ?_, hown, hS⟩ _
          exact rfl
        rintro g3 g4 u w3 ⟨hown, hB⟩
        replace hb1 := grown_below hb1 hB hb1.size
        clear hB
        go_wp2
        go_ret2
        exact ⟨_, rfl, hown, hb1⟩
  · have hc : fgC L p = pgC L p := if_neg hz
    rw [hc, ifL1 _ hz]
    obtain ⟨A, c, rfl⟩ := h.form
    have d0 : (pgC L p != 0) = true := by simpa using hz
    clear hc h hz
    generalize pgC L p = cc at *
    go_enter Try.func37, Try.ntmps37
    go_wp2_with (go_at_call 72; refine cP.mono ?_; rintro e w1 ⟨rfl, hb1⟩)
    go_ret2
    exact ⟨_, rfl, OwnL.nil_ _ _ _, hb1⟩
end Go.Proofs.Ytennmnkjdchbhaa
