/- The walk of the law FnExactRestorePage: it returns true and writes nothing that was there. -/
import Derived.Test.YtjbjbdkmomkclaaRows
import Derived.Test.YtjbjbdkmomkclaaLBook
import Derived.Test.YtjbjbdkmomkclaaLI64
import Derived.Test.YtjbjbdkmomkclaaHeld
import Derived.Test.YtjbjbdkmomkclaaRest
namespace Go.Proofs.Ytjbjbdkmomkclaa.wFnExactRestorePage
set_option maxRecDepth 100000
open Go.RowKit
set_option linter.unusedVariables false
set_option linter.unusedSimpArgs false
theorem wp_cut_val2 {P : Program} {Q : Exit → Act → World → Prop} {c : Code} {a : Act} {w : World} (F : Value → Value → Act) (R : Value → Value → World → Prop) (h : c.wp P (fun e a' w' => e = .normal ∧ ∃ u v, a' = F u v ∧ R u v w') a w) (k : ∀ u v w', R u v w' → Q .normal (F u v) w') : c.wp P Q a w :=
  Code.wp_mono (fun e a' w' ⟨he, u, v, ha, hR⟩ => by subst he; subst ha; exact k u v w' hR) h
theorem kept_ofA {w w' : World} {g : Nat} {t : TypeId} {f : Nat → Nat} {row : Option Nat} (h : Blk w g t f) (hg : w.grownBy w' row) (hn : row ≠ some g) : Blk w' g t f := by
  unfold Blk; rw [hg.block g h.lt (Ne.symm hn)]; exact h
set_option maxHeartbeats 4000000 in
theorem walk (vb : Value) (Lb : List (Nat → Nat)) (F : Nat → Nat) (p : Int) (hLb : ltL Lb) (hF : ∀ k, F k < 65536) (hp : (Lit.int .i64 p).wf = true) (w : World) (sb : SlAt eFr w w.heap.size vb Lb) :
    Calls Try.prog 7 #[vb, .agg (FC F), .int .i64 p] w fun e w' => e = .returned (.bool true) ∧ Below w.heap.size w w' := by
  obtain ⟨Ab, cb, heb⟩ := sb.form
  subst heb
  have hmb := sb.len
  have h0 := (Below.refl w.heap.size w).alloc (Nat.le_refl _) (.cells (FC F) 40)
  have bF := Blk.new w 40 F
  by_cases hzb : Lb.length ≤ 1000000
  case neg =>
    go_enter Try.func7, Try.ntmps7
    go_wp2_with fail
    refine (szBook_from Ab Lb.length cb (1000000) _ hmb (by omega) (by omega)).mono ?_
    rintro e w' ⟨rfl, rfl⟩
    rw [if_neg (by omega)]
    go_wp2
    go_ret
    exact ⟨rfl, h0⟩
  have hyb : Lb.length ≤ 1000000 := by omega
  go_enter Try.func7, Try.ntmps7
  go_wp2_with fail
  refine (szBook_from Ab Lb.length cb (1000000) _ hmb (by omega) (by omega)).mono ?_
  rintro e w' ⟨rfl, rfl⟩
  rw [if_pos (by omega)]
  have qb : 0 ≤ 1000000 - (Lb.length : Int) := by omega
  have hMl : (ifL (reC Lb F p) (reL Lb F p)).length ≤ 1000 := re_if_len Lb F p
  go_wp2_with fail
  generalize (w.alloc _) = w1 at *
  refine' wp_cut_val2 _ (fun u v w' => OwnL eFr w' w1.heap.size 41 v (ifL (reC Lb F p) (reL Lb F p)) ∧ Below w1.heap.size w1 w') ?hw1 ?kw1
  case' hw1 =>
    refine wp_region_held_drew (S := fun w' => Below w1.heap.size w1 w') (by kernel_rfl) (below_drew_refl w1) (fun hS => ?_)
    generalize w1.drew = v0 at hS ⊢
    refine held_take (i := 2) rfl (by kernel_rfl) (by kernel_rfl) (by kernel_rfl) (fun _ _ _ h => nomatch h.1) (yieldsIf_load_fr rfl 40 _ _ rfl _ rfl (fun w' h => bF.below h bF.lt) Try.underlying40 (by kernel_rfl)) hS ?_
    try simp only [Act.put, List.setIfInBounds_toArray, List.set_cons_zero, List.set_cons_succ]
    refine held_take (i := 0) (v := ?_) rfl (by kernel_rfl) (by kernel_rfl) (by kernel_rfl) (fun _ _ _ h => nomatch h.1) (Or.inl ⟨by rfl, ?_⟩) hS ?_
    rotate_left
    · intro w hSw; go_simp; (try with_reducible rfl)
    try simp only [Act.put, List.setIfInBounds_toArray, List.set_cons_zero, List.set_cons_succ]
    refine held_take (i := 4) (v := ?_) rfl (by kernel_rfl) (by kernel_rfl) (by kernel_rfl) (fun _ _ _ h => nomatch h.1) (Or.inl ⟨by rfl, ?_⟩) hS ?_
    rotate_left
    · intro w hSw; go_simp; (try with_reducible rfl)
    try simp only [Act.put, List.setIfInBounds_toArray, List.set_cons_zero, List.set_cons_succ]
    refine wpAnyH_ready (rs := [1]) (by kernel_rfl) (by simp) ?_
    refine held_cons rfl (fun K hK => ?_) AllReadyH.nil
    go_simp
    go_at_call 25
    refine (toBook_sl _ Lb false _ hyb ((sb.below (grown_below h0 hS h0.size)).mono (grown_below h0 hS h0.size).size)).mono ?_
    rintro e v1 ⟨uu, rfl, Suu, hb1⟩
    refine hK.out _ _ (grown_below hS hb1 hS.size) (fun hS' => ?_)
    clear hK K hS hb1; have hS := hS'; clear hS'; clear v0
    try simp only [Act.put, List.setIfInBounds_toArray, List.set_cons_zero, List.set_cons_succ]
    refine wpAnyH_ready (rs := [3]) (by kernel_rfl) (by simp) ?_
    refine held_cons rfl (fun K hK => ?_) AllReadyH.nil
    go_simp
    go_at_call 30
    refine (toFrame_any _ _).mono ?_
    rintro e v2 ⟨rfl, hb1⟩
    refine hK.out _ _ (grown_below hS hb1 hS.size) (fun hS' => ?_)
    replace Suu := Suu.later hb1
    clear hK K hS hb1; have hS := hS'; clear hS'; clear v1
    try simp only [Act.put, List.setIfInBounds_toArray, List.set_cons_zero, List.set_cons_succ]
    refine wpAnyH_ready (rs := [5]) (by kernel_rfl) (by simp) ?_
    refine held_cons rfl (fun K hK => ?_) AllReadyH.nil
    go_simp
    go_at_call 29
    refine (specRestore_any _ Lb F p _ hLb hF hp Suu).mono ?_
    rintro e v3 ⟨vv, rfl, hown, hb1⟩
    refine hK.out _ _ (grown_below hS hb1 hS.size) (fun hS' => ?_)
    replace hown := hown.mono hS.size
    clear Suu
    clear hK K hS hb1; have hS := hS'; clear hS'; clear v2
    try simp only [Act.put, List.setIfInBounds_toArray, List.set_cons_zero, List.set_cons_succ]
    refine held_take (i := 6) (v := ?_) rfl (by kernel_rfl) (by kernel_rfl) (by kernel_rfl) (fun _ _ _ h => nomatch h.1) (Or.inl ⟨by rfl, ?_⟩) hS ?_
    rotate_left
    · intro w hSw; go_simp; (try with_reducible rfl)
    try simp only [Act.put, List.setIfInBounds_toArray, List.set_cons_zero, List.set_cons_succ]
    refine held_take (i := 7) (v := ?_) rfl (by kernel_rfl) (by kernel_rfl) (by kernel_rfl) (fun _ _ _ h => nomatch h.1) (Or.inl ⟨by rfl, ?_⟩) hS ?_
    rotate_left
    · intro w hSw; go_simp; (try with_reducible rfl)
    try simp only [Act.put, List.setIfInBounds_toArray, List.set_cons_zero, List.set_cons_succ]
    refine held_take (i := 8) (v := ?_) rfl (by kernel_rfl) (by kernel_rfl) (by kernel_rfl) (fun _ _ _ h => nomatch h.1) (Or.inl ⟨by rfl, ?_⟩) hS ?_
    rotate_left
    · intro w hSw; go_simp; (try with_reducible rfl)
    try simp only [Act.put, List.setIfInBounds_toArray, List.set_cons_zero, List.set_cons_succ]
    refine held_take (i := 9) (v := ?_) rfl (by kernel_rfl) (by kernel_rfl) (by kernel_rfl) (fun _ _ _ h => nomatch h.1) (Or.inl ⟨by rfl, ?_⟩) hS ?_
    rotate_left
    · intro w hSw; go_simp; (try with_reducible rfl)
    try simp only [Act.put, List.setIfInBounds_toArray, List.set_cons_zero, List.set_cons_succ]
    refine held_take (i := 10) (v := ?_) rfl (by kernel_rfl) (by kernel_rfl) (by kernel_rfl) (fun _ _ _ h => nomatch h.1) (Or.inl ⟨by rfl, ?_⟩) hS ?_
    rotate_left
    · intro w hSw; go_simp; (try with_reducible rfl)
    try simp only [Act.put, List.setIfInBounds_toArray, List.set_cons_zero, List.set_cons_succ]
    refine wpAnyH_done (by kernel_rfl) ⟨rfl, uu, vv, ?_, hown, hS⟩ _
    exact rfl
  case kw1 =>
  rintro uu v4 w2 ⟨O4, hb⟩
  replace bF := bF.below hb bF.lt
  replace h0 := grown_below h0 hb h0.size
  clear hb
  have n4 : ∀ k, v4.ownBlock = some k → k < w2.heap.size := fun k hk => (O4.lt k hk).2
  have lF0 := bF.lt
  go_wp2_with fail
  refine (toBook_any _ Lb false _ hyb ((sb.below h0).mono h0.size) (Or.inl rfl)).mono ?_
  rintro e w3 ⟨g2, rfl, hgg2, Hg2, hb⟩
  have zg2 : w.heap.size ≤ g2 := Nat.le_trans h0.size hgg2
  replace O4 := O4.below hb
  replace bF := bF.below hb bF.lt
  replace h0 := grown_below h0 hb h0.size
  clear hb
  have lg2 := Hg2.lt
  have lF := bF.lt
  have zz := h0.size
  go_wp2_with (refine wpList_load_fr rfl 40 39 _ rfl _ rfl bF Try.underlying40 (by kernel_rfl) ?_)
  refine (toFrame_any _ _).mono ?_
  rintro e w35 ⟨rfl, hb⟩
  replace O4 := O4.below hb
  replace Hg2 := Hg2.below hb Hg2.lt
  replace bF := bF.below hb bF.lt
  replace h0 := grown_below h0 hb h0.size
  have zz5 := hb.size
  clear hb
  go_wp2_with fail
  refine (implRestore_any _ Lb F p _ hLb hF hp ((Hg2.sl (n := Lb.length) (c := Lb.length + roomN Lb.length) (by rw [roomy_length]; omega) (by omega) (by have := roomN_le Lb.length; unfold maxLen; omega)).roomy)).mono ?_
  rintro e w4 ⟨v7, rfl, O7, hb⟩
  replace O4 := O4.below hb
  replace Hg2 := Hg2.below hb Hg2.lt
  replace bF := bF.below hb bF.lt
  replace h0 := grown_below h0 hb h0.size
  clear hb
  have n7 : ∀ k, v7.ownBlock = some k → w3.heap.size ≤ k := fun k hk => Nat.le_trans zz5 (O7.lt k hk).1
  go_wp2_with fail
  refine (eqBook_same _ _ (ifL (reC Lb F p) (reL Lb F p)) _ (O7.sl (by decide)) (O4.sl (by decide))).mono ?_
  rintro e w5 ⟨rfl, hb⟩
  replace O4 := O4.below hb
  replace Hg2 := Hg2.below hb Hg2.lt
  replace O7 := O7.below hb
  replace bF := bF.below hb bF.lt
  replace h0 := grown_below h0 hb h0.size
  clear hb
  go_wp2_with fail
  refine (toBook_any _ Lb false _ hyb ((sb.below h0).mono h0.size) (Or.inl rfl)).mono ?_
  rintro e w6 ⟨g3, rfl, hgg3, Hg3, hb⟩
  have zg3 : w.heap.size ≤ g3 := Nat.le_trans h0.size hgg3
  replace O4 := O4.below hb
  replace Hg2 := Hg2.below hb Hg2.lt
  replace O7 := O7.below hb
  replace bF := bF.below hb bF.lt
  replace h0 := grown_below h0 hb h0.size
  clear hb
  go_wp2_with fail
  refine (intactBook_any g2 g3 Lb _ hyb Hg2 Hg3).mono ?_
  rintro e w7 ⟨rfl, hb⟩
  replace O4 := O4.below hb
  replace Hg2 := Hg2.below hb Hg2.lt
  replace O7 := O7.below hb
  replace Hg3 := Hg3.below hb Hg3.lt
  replace bF := bF.below hb bF.lt
  replace h0 := grown_below h0 hb h0.size
  clear hb
  go_wp2_with fail
  refine (markBook_any g2 Lb.length _ (101) _ _ (by omega) (by omega) hyb (RowN.of_held Hg2) (by rw [roomy_length]; exact Nat.mul_le_mul_right _ (by omega))).mono ?_
  rintro e w8 ⟨rfl, hmk⟩
  have n4g2 : v4.ownBlock ≠ some g2 := fun e => by have := n4 _ e; omega
  have n7g2 : v7.ownBlock ≠ some g2 := fun e => by have := n7 _ e; omega
  replace O4 := O4.wrote hmk.wrote n4g2
  replace O7 := O7.wrote hmk.wrote n7g2
  replace bF := hmk.wrote.row bF (by omega)
  replace h0 := hmk.wrote.below h0 (by omega) h0.size
  clear Hg2 hmk
  go_wp2_with fail
  refine (eqBook_same _ _ (ifL (reC Lb F p) (reL Lb F p)) _ (O7.sl (by decide)) (O4.sl (by decide))).mono ?_
  rintro e w9 ⟨rfl, hb⟩
  replace O4 := O4.below hb
  replace O7 := O7.below hb
  replace bF := bF.below hb bF.lt
  replace h0 := grown_below h0 hb h0.size
  clear hb
  go_wp2_with fail
  refine (markBook_own _ (ifL (reC Lb F p) (reL Lb F p)) _ 101 _ (by omega) (by omega) (by omega) O7).mono ?_
  rintro e w10 ⟨rfl, hgr, K7⟩
  replace O4 := O4.kept hgr (own_apart (B := w3.heap.size) (fun k hk => Nat.lt_of_lt_of_le (n4 k hk) (by omega)) n7)
  replace bF := kept_ofA bF hgr (fun e => by have := n7 _ e; have := lF; omega)
  replace h0 := h0.grown hgr h0.size (fun k hk => Nat.le_trans zz (n7 k hk))
  clear hgr O7
  generalize hq : (ifL (reC Lb F p) (reL Lb F p)).length = q at *
  go_wp2_with fail
  refine (heldBook_own _ q 101 _ (by omega) (by omega) (by omega) K7).mono ?_
  rintro e w' ⟨rfl, rfl⟩
  go_wp2_with fail
  refine' wp_cut_val2 _ (fun u v w' => OwnL eFr w' w10.heap.size 41 v (ifL (reC Lb F p) (reL Lb F p)) ∧ Below w10.heap.size w10 w') ?hw10 ?kw10
  case' hw10 =>
    refine wp_region_held_drew (S := fun w' => Below w10.heap.size w10 w') (by kernel_rfl) (below_drew_refl w10) (fun hS => ?_)
    generalize w10.drew = v0 at hS ⊢
    refine held_take (i := 2) rfl (by kernel_rfl) (by kernel_rfl) (by kernel_rfl) (fun _ _ _ h => nomatch h.1) (yieldsIf_load_fr rfl 40 _ _ rfl _ rfl (fun w' h => bF.below h bF.lt) Try.underlying40 (by kernel_rfl)) hS ?_
    try simp only [Act.put, List.setIfInBounds_toArray, List.set_cons_zero, List.set_cons_succ]
    refine held_take (i := 0) (v := ?_) rfl (by kernel_rfl) (by kernel_rfl) (by kernel_rfl) (fun _ _ _ h => nomatch h.1) (Or.inl ⟨by rfl, ?_⟩) hS ?_
    rotate_left
    · intro w hSw; go_simp; (try with_reducible rfl)
    try simp only [Act.put, List.setIfInBounds_toArray, List.set_cons_zero, List.set_cons_succ]
    refine held_take (i := 4) (v := ?_) rfl (by kernel_rfl) (by kernel_rfl) (by kernel_rfl) (fun _ _ _ h => nomatch h.1) (Or.inl ⟨by rfl, ?_⟩) hS ?_
    rotate_left
    · intro w hSw; go_simp; (try with_reducible rfl)
    try simp only [Act.put, List.setIfInBounds_toArray, List.set_cons_zero, List.set_cons_succ]
    refine wpAnyH_ready (rs := [1]) (by kernel_rfl) (by simp) ?_
    refine held_cons rfl (fun K hK => ?_) AllReadyH.nil
    go_simp
    go_at_call 25
    refine (toBook_sl _ Lb true _ hyb ((sb.below (grown_below h0 hS h0.size)).mono (grown_below h0 hS h0.size).size)).mono ?_
    rintro e v1 ⟨uu, rfl, Suu, hb1⟩
    refine hK.out _ _ (grown_below hS hb1 hS.size) (fun hS' => ?_)
    clear hK K hS hb1; have hS := hS'; clear hS'; clear v0
    try simp only [Act.put, List.setIfInBounds_toArray, List.set_cons_zero, List.set_cons_succ]
    refine wpAnyH_ready (rs := [3]) (by kernel_rfl) (by simp) ?_
    refine held_cons rfl (fun K hK => ?_) AllReadyH.nil
    go_simp
    go_at_call 30
    refine (toFrame_any _ _).mono ?_
    rintro e v2 ⟨rfl, hb1⟩
    refine hK.out _ _ (grown_below hS hb1 hS.size) (fun hS' => ?_)
    replace Suu := Suu.later hb1
    clear hK K hS hb1; have hS := hS'; clear hS'; clear v1
    try simp only [Act.put, List.setIfInBounds_toArray, List.set_cons_zero, List.set_cons_succ]
    refine wpAnyH_ready (rs := [5]) (by kernel_rfl) (by simp) ?_
    refine held_cons rfl (fun K hK => ?_) AllReadyH.nil
    go_simp
    go_at_call 31
    refine (implRestore_any _ Lb F p _ hLb hF hp Suu).mono ?_
    rintro e v3 ⟨vv, rfl, hown, hb1⟩
    refine hK.out _ _ (grown_below hS hb1 hS.size) (fun hS' => ?_)
    replace hown := hown.mono hS.size
    clear Suu
    clear hK K hS hb1; have hS := hS'; clear hS'; clear v2
    try simp only [Act.put, List.setIfInBounds_toArray, List.set_cons_zero, List.set_cons_succ]
    refine held_take (i := 6) (v := ?_) rfl (by kernel_rfl) (by kernel_rfl) (by kernel_rfl) (fun _ _ _ h => nomatch h.1) (Or.inl ⟨by rfl, ?_⟩) hS ?_
    rotate_left
    · intro w hSw; go_simp; (try with_reducible rfl)
    try simp only [Act.put, List.setIfInBounds_toArray, List.set_cons_zero, List.set_cons_succ]
    refine held_take (i := 7) (v := ?_) rfl (by kernel_rfl) (by kernel_rfl) (by kernel_rfl) (fun _ _ _ h => nomatch h.1) (Or.inl ⟨by rfl, ?_⟩) hS ?_
    rotate_left
    · intro w hSw; go_simp; (try with_reducible rfl)
    try simp only [Act.put, List.setIfInBounds_toArray, List.set_cons_zero, List.set_cons_succ]
    refine held_take (i := 8) (v := ?_) rfl (by kernel_rfl) (by kernel_rfl) (by kernel_rfl) (fun _ _ _ h => nomatch h.1) (Or.inl ⟨by rfl, ?_⟩) hS ?_
    rotate_left
    · intro w hSw; go_simp; (try with_reducible rfl)
    try simp only [Act.put, List.setIfInBounds_toArray, List.set_cons_zero, List.set_cons_succ]
    refine held_take (i := 9) (v := ?_) rfl (by kernel_rfl) (by kernel_rfl) (by kernel_rfl) (fun _ _ _ h => nomatch h.1) (Or.inl ⟨by rfl, ?_⟩) hS ?_
    rotate_left
    · intro w hSw; go_simp; (try with_reducible rfl)
    try simp only [Act.put, List.setIfInBounds_toArray, List.set_cons_zero, List.set_cons_succ]
    refine held_take (i := 10) (v := ?_) rfl (by kernel_rfl) (by kernel_rfl) (by kernel_rfl) (fun _ _ _ h => nomatch h.1) (Or.inl ⟨by rfl, ?_⟩) hS ?_
    rotate_left
    · intro w hSw; go_simp; (try with_reducible rfl)
    try simp only [Act.put, List.setIfInBounds_toArray, List.set_cons_zero, List.set_cons_succ]
    refine wpAnyH_done (by kernel_rfl) ⟨rfl, uu, vv, ?_, hown, hS⟩ _
    exact rfl
  case kw10 =>
  rintro uu v12 w12 ⟨O12, hb⟩
  replace O4 := O4.below hb
  replace K7 := K7.below hb
  replace bF := bF.below hb bF.lt
  replace h0 := grown_below h0 hb h0.size
  clear hb
  go_wp2_with fail
  refine (eqBook_same _ _ (ifL (reC Lb F p) (reL Lb F p)) _ (O12.sl (by decide)) (O4.sl (by decide))).mono ?_
  rintro e w13 ⟨rfl, hb⟩
  replace O4 := O4.below hb
  replace K7 := K7.below hb
  replace O12 := O12.below hb
  replace h0 := grown_below h0 hb h0.size
  clear hb
  go_wp2_with fail
  refine (heldBook_own _ q 101 _ (by omega) (by omega) (by omega) K7).mono ?_
  rintro e w' ⟨rfl, rfl⟩
  go_wp2
  go_ret
  exact ⟨rfl, h0⟩
end Go.Proofs.Ytjbjbdkmomkclaa.wFnExactRestorePage
