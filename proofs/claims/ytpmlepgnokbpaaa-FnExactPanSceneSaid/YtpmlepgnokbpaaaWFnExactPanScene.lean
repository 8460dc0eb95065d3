import Derived.Test.YtpmlepgnokbpaaaRows
import Derived.Test.YtpmlepgnokbpaaaM4
import Derived.Test.YtpmlepgnokbpaaaM7
import Derived.Test.YtpmlepgnokbpaaaM15
import Derived.Test.YtpmlepgnokbpaaaM20
/- The walk of the law FnExactPanScene: it returns true and writes nothing that was there. -/
namespace Go.Proofs.Ytpmlepgnokbpaaa.wFnExactPanScene
set_option maxRecDepth 100000
open Go.RowKit
set_option linter.unusedVariables false
set_option linter.unusedSimpArgs false
set_option maxHeartbeats 4000000 in
theorem walk (vs : Value) (Ls : List Ly) (x : Int) (y : Int) (j : Int) (k : Int) (n : Int) (hLs : ltLy Ls) (hx : (Lit.int .i64 x).wf = true) (hy : (Lit.int .i64 y).wf = true) (hj : (Lit.int .i64 j).wf = true) (hk : (Lit.int .i64 k).wf = true) (hn : (Lit.int .i64 n).wf = true) (w : World) (ss : SlAt eLy w w.heap.size vs Ls) :
    Calls Try.prog 13 #[vs, .int .i64 x, .int .i64 y, .int .i64 j, .int .i64 k, .int .i64 n] w fun e w' => e = .returned (.bool true) ∧ Below w.heap.size w w' := by
  obtain ⟨As, cs, hes⟩ := ss.form
  subst hes
  have hms := ss.len
  have h0 := Below.refl w.heap.size w
  by_cases hzs : Ls.length ≤ 1000000
  case neg =>
    go_enter Try.func13, Try.ntmps13
    go_wp2_with fail
    refine (szScene_from As Ls.length cs (1000000) _ hms (by omega) (by omega)).mono ?_
    rintro e w' ⟨rfl, rfl⟩
    rw [if_neg (by omega)]
    go_wp2
    go_ret
    exact ⟨rfl, h0⟩
  have hys : Ls.length ≤ 1000000 := by omega
  go_enter Try.func13, Try.ntmps13
  go_wp2_with fail
  refine (szScene_from As Ls.length cs (1000000) _ hms (by omega) (by omega)).mono ?_
  rintro e w' ⟨rfl, rfl⟩
  rw [if_pos (by omega)]
  have qs : 0 ≤ 1000000 - (Ls.length : Int) := by omega
  go_wp2_with fail
  refine (toScene_sl _ Ls false _ hys ((ss.below h0).mono h0.size)).mono ?_
  rintro e w1 ⟨u1, rfl, Su1, hb⟩
  replace h0 := grown_below h0 hb h0.size
  clear hb
  have hMl : (ifL (panC Ls x y j k n) (panL Ls x y j k n)).length ≤ 1000 := pan_if_len Ls x y j k n
  go_wp2_with fail
  refine (specPan_any _ Ls x y j k n _ hLs Su1).mono ?_
  rintro e w2 ⟨v4, rfl, O4, hb⟩
  replace Su1 := Su1.later hb
  replace h0 := grown_below h0 hb h0.size
  clear hb
  have n4 : ∀ k, v4.ownBlock = some k → k < w2.heap.size := fun k hk => (O4.lt k hk).2
  go_wp2_with fail
  refine (toScene_any _ Ls false _ hys ((ss.below h0).mono h0.size) (Or.inl rfl)).mono ?_
  rintro e w3 ⟨g2, rfl, hgg2, Hg2, hb⟩
  have zg2 : w.heap.size ≤ g2 := Nat.le_trans h0.size hgg2
  replace O4 := O4.below hb
  replace h0 := grown_below h0 hb h0.size
  clear hb
  have lg2 := Hg2.lt
  have zz := h0.size
  go_wp2_with fail
  refine (implPan_any _ Ls x y j k n _ hLs hn ((Hg2.sl (n := Ls.length) (c := Ls.length + roomN Ls.length) (by rw [roomy_length]; omega) (by omega) (by have := roomN_le Ls.length; unfold maxLen; omega)).roomy)).mono ?_
  rintro e w4 ⟨v7, rfl, O7, hb⟩
  replace O4 := O4.below hb
  replace Hg2 := Hg2.below hb Hg2.lt
  replace h0 := grown_below h0 hb h0.size
  clear hb
  have n7 : ∀ k, v7.ownBlock = some k → w3.heap.size ≤ k := fun k hk => (O7.lt k hk).1
  go_wp2_with fail
  refine (eqBook_same _ _ (ifL (panC Ls x y j k n) (panL Ls x y j k n)) _ (O7.sl (by decide)) (O4.sl (by decide))).mono ?_
  rintro e w5 ⟨rfl, hb⟩
  replace O4 := O4.below hb
  replace Hg2 := Hg2.below hb Hg2.lt
  replace O7 := O7.below hb
  replace h0 := grown_below h0 hb h0.size
  clear hb
  go_wp2_with fail
  refine (toScene_any _ Ls false _ hys ((ss.below h0).mono h0.size) (Or.inl rfl)).mono ?_
  rintro e w6 ⟨g3, rfl, hgg3, Hg3, hb⟩
  have zg3 : w.heap.size ≤ g3 := Nat.le_trans h0.size hgg3
  replace O4 := O4.below hb
  replace Hg2 := Hg2.below hb Hg2.lt
  replace O7 := O7.below hb
  replace h0 := grown_below h0 hb h0.size
  clear hb
  go_wp2_with fail
  refine (intactScene_any g2 g3 Ls _ hys Hg2 Hg3).mono ?_
  rintro e w7 ⟨rfl, hb⟩
  replace O4 := O4.below hb
  replace Hg2 := Hg2.below hb Hg2.lt
  replace O7 := O7.below hb
  replace Hg3 := Hg3.below hb Hg3.lt
  replace h0 := grown_below h0 hb h0.size
  clear hb
  go_wp2_with fail
  refine (markScene_any g2 Ls.length _ (101) _ _ (by omega) (by omega) hys (RowN.of_held Hg2) (by rw [roomy_length]; exact Nat.mul_le_mul_right _ (by omega))).mono ?_
  rintro e w8 ⟨rfl, hmk⟩
  have n4g2 : v4.ownBlock ≠ some g2 := fun e => by have := n4 _ e; omega
  have n7g2 : v7.ownBlock ≠ some g2 := fun e => by have := n7 _ e; omega
  replace O4 := O4.wrote hmk.wrote n4g2
  replace O7 := O7.wrote hmk.wrote n7g2
  replace h0 := hmk.wrote.below h0 (by omega) h0.size
  clear Hg2 hmk
  go_wp2_with fail
  refine (eqBook_same _ _ (ifL (panC Ls x y j k n) (panL Ls x y j k n)) _ (O7.sl (by decide)) (O4.sl (by decide))).mono ?_
  rintro e w9 ⟨rfl, hb⟩
  replace O4 := O4.below hb
  replace O7 := O7.below hb
  replace h0 := grown_below h0 hb h0.size
  clear hb
  go_wp2_with fail
  refine (markBook_own _ (ifL (panC Ls x y j k n) (panL Ls x y j k n)) _ 101 _ (by omega) (by omega) (by omega) O7).mono ?_
  rintro e w10 ⟨rfl, hgr, K7⟩
  replace O4 := O4.kept hgr (own_apart (B := w3.heap.size) (fun k hk => Nat.lt_of_lt_of_le (n4 k hk) (by omega)) n7)
  replace h0 := h0.grown hgr h0.size (fun k hk => Nat.le_trans zz (n7 k hk))
  clear hgr O7
  generalize hq : (ifL (panC Ls x y j k n) (panL Ls x y j k n)).length = q at *
  go_wp2_with fail
  refine (heldBook_own _ q 101 _ (by omega) (by omega) (by omega) K7).mono ?_
  rintro e w' ⟨rfl, rfl⟩
  go_wp2_with fail
  refine (toScene_sl _ Ls true _ hys ((ss.below h0).mono h0.size)).mono ?_
  rintro e w11 ⟨u4, rfl, Su4, hb⟩
  replace O4 := O4.below hb
  replace K7 := K7.below hb
  replace h0 := grown_below h0 hb h0.size
  clear hb
  go_wp2_with fail
  refine (implPan_any _ Ls x y j k n _ hLs hn Su4).mono ?_
  rintro e w12 ⟨v12, rfl, O12, hb⟩
  replace O4 := O4.below hb
  replace K7 := K7.below hb
  replace Su4 := Su4.later hb
  replace h0 := grown_below h0 hb h0.size
  clear hb
  go_wp2_with fail
  refine (eqBook_same _ _ (ifL (panC Ls x y j k n) (panL Ls x y j k n)) _ (O12.sl (by decide)) (O4.sl (by decide))).mono ?_
  rintro e w13 ⟨rfl, hb⟩
  replace O4 := O4.below hb
  replace K7 := K7.below hb
  replace Su4 := Su4.later hb
  replace O12 := O12.below hb
  replace h0 := grown_below h0 hb h0.size
  clear hb
  go_wp2_with fail
  refine (heldBook_own _ q 101 _ (by omega) (by omega) (by omega) K7).mono ?_
  rintro e w' ⟨rfl, rfl⟩
  go_wp2
  go_ret
  exact ⟨rfl, h0⟩
end Go.Proofs.Ytpmlepgnokbpaaa.wFnExactPanScene
