/- The walk of the law FnExactPagesLost: it returns true and writes nothing that was there. -/
import Derived.Test.YtjbjbdkmomkclabRows
import Derived.Test.YtjbjbdkmomkclabLBook
import Derived.Test.YtjbjbdkmomkclabLI64
import Derived.Test.YtjbjbdkmomkclabStp3
import Derived.Test.YtjbjbdkmomkclabMStp
import Derived.Test.YtjbjbdkmomkclabLost2
namespace Go.Proofs.Ytjbjbdkmomkclab.wFnExactPagesLost
set_option maxRecDepth 100000
open Go.RowKit
set_option linter.unusedVariables false
set_option linter.unusedSimpArgs false
set_option maxHeartbeats 4000000 in
theorem walk (va : Value) (La : List Stp) (p : Int) (hLa : ltSt La) (hp : (Lit.int .i64 p).wf = true) (w : World) (sa : StsAt w w.heap.size va La) :
    Calls Try.prog 6 #[va, .int .i64 p] w fun e w' => e = .returned (.bool true) ∧ Below w.heap.size w w' := by
  obtain ⟨Aa, ca, hea⟩ := sa.form
  subst hea
  have hma := sa.len
  have hla := szN_len La
  have h0 := Below.refl w.heap.size w
  by_cases hza : szN La ≤ 1000000
  case neg =>
    go_enter Try.func6, Try.ntmps6
    go_wp2_with fail
    refine (szStepS_any _ La (1000000) _ (by omega) (by omega) ((sa.below h0).mono h0.size)).mono ?_
    rintro e wz0 ⟨rfl, hb⟩
    replace h0 := grown_below h0 hb h0.size
    clear hb
    rw [show szR La (1000000) = -1 from if_neg (by omega)]
    go_wp2
    go_ret
    exact ⟨rfl, h0⟩
  have hya : La.length ≤ 1000000 := by omega
  have hSa : ∀ i, i < La.length → (tAt La i).2.length ≤ 1000000 := fun i hi => by have := szN_row La hi; omega
  go_enter Try.func6, Try.ntmps6
  go_wp2_with fail
  refine (szStepS_any _ La (1000000) _ (by omega) (by omega) ((sa.below h0).mono h0.size)).mono ?_
  rintro e w1 ⟨rfl, hb⟩
  replace h0 := grown_below h0 hb h0.size
  clear hb
  rw [show szR La (1000000) = 1000000 - (szN La : Int) from if_pos (by omega)]
  have qa : 0 ≤ 1000000 - (szN La : Int) := by omega
  go_wp2_with fail
  refine (toStepS_given _ La false _ hya hSa ((sa.below h0).mono h0.size)).mono ?_
  rintro e w2 ⟨u1, rfl, Su1, hb⟩
  replace Su1 := Su1.sts hya hSa
  replace h0 := grown_below h0 hb h0.size
  clear hb
  have hMl : (ifL (asZ La p) (lostL La p)).length ≤ 1000 := lo_if_len La p
  go_wp2_with fail
  refine (specLost_any _ La p _ hLa hya Su1).mono ?_
  rintro e w3 ⟨v4, rfl, O4, hb⟩
  replace Su1 := Su1.later hb
  replace h0 := grown_below h0 hb h0.size
  clear hb
  have n4 : ∀ k, v4.ownBlock = some k → k < w3.heap.size := fun k hk => (O4.lt k hk).2
  have z04 := h0.size
  go_wp2_with fail
  refine (toStepS_any _ La false _ hya hSa ((sa.below h0).mono h0.size) (Or.inl rfl)).mono ?_
  rintro e w4 ⟨g2, Rg2, rfl, hgg2, Hg2, hb⟩
  have zg2 : w.heap.size ≤ g2 := Nat.le_trans h0.size hgg2; have zqg2 := hb.size
  replace O4 := O4.below hb
  replace h0 := grown_below h0 hb h0.size
  clear hb
  have zz := h0.size
  have Bg2 := Hg2.inb
  have lg2 := Hg2.lt
  go_wp2_with fail
  refine (implLost_any _ La p _ hLa hya (Hg2.sts hya hSa)).mono ?_
  rintro e w5 ⟨v7, rfl, O7, hb⟩
  replace O4 := O4.below hb
  replace Hg2 := Hg2.below hb
  replace h0 := grown_below h0 hb h0.size
  clear hb
  have n7 : ∀ k, v7.ownBlock = some k → w4.heap.size ≤ k := fun k hk => (O7.lt k hk).1
  go_wp2_with fail
  refine (eqInt64S_same _ _ (ifL (asZ La p) (lostL La p)) _ (O7.sl (by decide)) (O4.sl (by decide))).mono ?_
  rintro e w6 ⟨rfl, hb⟩
  replace O4 := O4.below hb
  replace Hg2 := Hg2.below hb
  replace O7 := O7.below hb
  replace h0 := grown_below h0 hb h0.size
  clear hb
  go_wp2_with fail
  refine (toStepS_any _ La false _ hya hSa ((sa.below h0).mono h0.size) (Or.inl rfl)).mono ?_
  rintro e w7 ⟨g3, Rg3, rfl, hgg3, Hg3, hb⟩
  have zg3 : w.heap.size ≤ g3 := Nat.le_trans h0.size hgg3; have zqg3 := hb.size
  replace O4 := O4.below hb
  replace Hg2 := Hg2.below hb
  replace O7 := O7.below hb
  replace h0 := grown_below h0 hb h0.size
  clear hb
  go_wp2_with fail
  refine (intactStepS_any g2 g3 Rg2 Rg3 La _ hya hSa Hg2 Hg3).mono ?_
  rintro e w8 ⟨rfl, hb⟩
  replace O4 := O4.below hb
  replace Hg2 := Hg2.below hb
  replace O7 := O7.below hb
  replace Hg3 := Hg3.below hb
  replace h0 := grown_below h0 hb h0.size
  clear hb
  go_wp2_with fail
  refine (markStepS_args g2 Rg2 La w3.heap.size w4.heap.size 101 _ (by omega) (by omega) (by omega) hza Hg2 Bg2 lg2).mono ?_
  rintro e w9 ⟨kk, rfl, hkk, hmk⟩
  replace O4 := O4.within hmk (fun k hk => .inl (n4 k hk))
  replace O7 := O7.within hmk (fun k hk => .inr (n7 k hk))
  replace h0 := hmk.below h0 z04 h0.size
  clear Hg2 Bg2 hmk
  go_wp2_with fail
  refine (eqInt64S_same _ _ (ifL (asZ La p) (lostL La p)) _ (O7.sl (by decide)) (O4.sl (by decide))).mono ?_
  rintro e w10 ⟨rfl, hb⟩
  replace O4 := O4.below hb
  replace O7 := O7.below hb
  replace h0 := grown_below h0 hb h0.size
  clear hb
  go_wp2_with fail
  refine (markInt64S_own _ (ifL (asZ La p) (lostL La p)) _ 101 _ (by omega) (by omega) (by omega) O7).mono ?_
  rintro e w11 ⟨rfl, hgr, K7⟩
  replace O4 := O4.kept hgr (own_apart (B := w4.heap.size) (fun k hk => Nat.lt_of_lt_of_le (n4 k hk) (by omega)) n7)
  replace h0 := h0.grown hgr h0.size (fun k hk => Nat.le_trans zz (n7 k hk))
  clear hgr O7
  generalize hq : (ifL (asZ La p) (lostL La p)).length = q at *
  go_wp2_with fail
  refine (heldInt64S_own _ q 101 _ (by omega) (by omega) (by omega) K7).mono ?_
  rintro e w' ⟨rfl, rfl⟩
  go_wp2_with fail
  refine (toStepS_given _ La true _ hya hSa ((sa.below h0).mono h0.size)).mono ?_
  rintro e w12 ⟨u4, rfl, Su4, hb⟩
  replace Su4 := Su4.sts hya hSa
  replace O4 := O4.below hb
  replace K7 := K7.below hb
  replace h0 := grown_below h0 hb h0.size
  clear hb
  go_wp2_with fail
  refine (implLost_any _ La p _ hLa hya Su4).mono ?_
  rintro e w13 ⟨v12, rfl, O12, hb⟩
  replace O4 := O4.below hb
  replace K7 := K7.below hb
  replace Su4 := Su4.later hb
  replace h0 := grown_below h0 hb h0.size
  clear hb
  go_wp2_with fail
  refine (eqInt64S_same _ _ (ifL (asZ La p) (lostL La p)) _ (O12.sl (by decide)) (O4.sl (by decide))).mono ?_
  rintro e w14 ⟨rfl, hb⟩
  replace O4 := O4.below hb
  replace K7 := K7.below hb
  replace Su4 := Su4.later hb
  replace O12 := O12.below hb
  replace h0 := grown_below h0 hb h0.size
  clear hb
  go_wp2_with fail
  refine (heldInt64S_own _ q 101 _ (by omega) (by omega) (by omega) K7).mono ?_
  rintro e w' ⟨rfl, rfl⟩
  go_wp2
  go_ret
  exact ⟨rfl, h0⟩
end Go.Proofs.Ytjbjbdkmomkclab.wFnExactPagesLost
