/- The walk of the law FnExactInkStrokes: it returns true and writes nothing that was there. -/
import Derived.Test.YtjbjbdkmomkclaaRows
import Derived.Test.YtjbjbdkmomkclaaLBook
import Derived.Test.YtjbjbdkmomkclaaLI64
import Derived.Test.YtjbjbdkmomkclaaLStk
import Derived.Test.YtjbjbdkmomkclaaEqYes
import Derived.Test.YtjbjbdkmomkclaaInk2
namespace Go.Proofs.Ytjbjbdkmomkclaa.wFnExactInkStrokes
set_option maxRecDepth 100000
open Go.RowKit
set_option linter.unusedVariables false
set_option linter.unusedSimpArgs false
set_option maxHeartbeats 4000000 in
theorem walk (vs : Value) (Ls : List (Int × Int × Int × Bool)) (hLs : ltSk Ls) (w : World) (ss : SlAt eSk w w.heap.size vs Ls) :
    Calls Try.prog 8 #[vs] w fun e w' => e = .returned (.bool true) ∧ Below w.heap.size w w' := by
  obtain ⟨As, cs, hes⟩ := ss.form
  subst hes
  have hms := ss.len
  have h0 := Below.refl w.heap.size w
  by_cases hzs : Ls.length ≤ 1000000
  case neg =>
    go_enter Try.func8, Try.ntmps8
    go_wp2_with fail
    refine (szStrokeS_from As Ls.length cs (1000000) _ hms (by omega) (by omega)).mono ?_
    rintro e w' ⟨rfl, rfl⟩
    rw [if_neg (by omega)]
    go_wp2
    go_ret
    exact ⟨rfl, h0⟩
  have hys : Ls.length ≤ 1000000 := by omega
  go_enter Try.func8, Try.ntmps8
  go_wp2_with fail
  refine (szStrokeS_from As Ls.length cs (1000000) _ hms (by omega) (by omega)).mono ?_
  rintro e w' ⟨rfl, rfl⟩
  rw [if_pos (by omega)]
  have qs : 0 ≤ 1000000 - (Ls.length : Int) := by omega
  go_wp2_with fail
  refine (toStrokeS_sl _ Ls false _ hys ((ss.below h0).mono h0.size)).mono ?_
  rintro e w1 ⟨u1, rfl, Su1, hb⟩
  replace h0 := grown_below h0 hb h0.size
  clear hb
  go_wp2_with fail
  refine (specInk_any _ Ls _ hLs Su1).mono ?_
  rintro e w2 ⟨rfl, hb⟩
  replace Su1 := Su1.later hb
  replace h0 := grown_below h0 hb h0.size
  clear hb
  go_wp2_with (refine wpList_store_new (f0 := zeroF) (f := ifC (inkC Ls) (inkF Ls Ls.length)) rfl 41 _ _ rfl rfl rfl (by kernel_rfl) ?_; have bw := Blk.new w2 41 (ifC (inkC Ls) (inkF Ls Ls.length)); have hb := (Below.refl w2.heap.size w2).alloc (Nat.le_refl _) (.cells (FC (ifC (inkC Ls) (inkF Ls Ls.length))) 41); generalize w2.alloc (.cells (FC (ifC (inkC Ls) (inkF Ls Ls.length))) 41) = w3 at *)
  replace Su1 := Su1.later hb
  replace h0 := grown_below h0 hb h0.size
  clear hb
  go_wp2_with fail
  refine (toStrokeS_any _ Ls false _ hys ((ss.below h0).mono h0.size) (Or.inl rfl)).mono ?_
  rintro e w4 ⟨g2, rfl, hgg2, Hg2, hb⟩
  have zg2 : w.heap.size ≤ g2 := Nat.le_trans h0.size hgg2
  replace Su1 := Su1.later hb
  replace bw := bw.below hb bw.lt
  replace h0 := grown_below h0 hb h0.size
  clear hb
  go_wp2_with fail
  refine (implInk_any _ Ls _ hLs ((Hg2.sl (n := Ls.length) (c := Ls.length + roomN Ls.length) (by rw [roomy_length]; omega) (by omega) (by have := roomN_le Ls.length; unfold maxLen; omega)).roomy)).mono ?_
  rintro e w5 ⟨rfl, hb⟩
  replace Su1 := Su1.later hb
  replace bw := bw.below hb bw.lt
  replace Hg2 := Hg2.below hb Hg2.lt
  replace h0 := grown_below h0 hb h0.size
  clear hb
  go_wp2_with (first | (refine wpList_store_new (f0 := zeroF) (f := ifC (inkC Ls) (inkF Ls Ls.length)) rfl 41 _ _ rfl rfl rfl (by kernel_rfl) ?_; have bg := Blk.new w5 41 (ifC (inkC Ls) (inkF Ls Ls.length)); have hb := (Below.refl w5.heap.size w5).alloc (Nat.le_refl _) (.cells (FC (ifC (inkC Ls) (inkF Ls Ls.length))) 41); generalize w5.alloc (.cells (FC (ifC (inkC Ls) (inkF Ls Ls.length))) 41) = w6 at *; replace bw := bw.below hb bw.lt) | (refine wpList_load_fr rfl 41 39 _ rfl _ rfl (by with_reducible exact bg) Try.underlying41 (by kernel_rfl) ?_) | (refine wpList_load_fr rfl 41 39 _ rfl _ rfl (by with_reducible exact bw) Try.underlying41 (by kernel_rfl) ?_))
  replace Su1 := Su1.later hb
  replace Hg2 := Hg2.below hb Hg2.lt
  replace h0 := grown_below h0 hb h0.size
  clear hb
  go_wp2_with fail
  refine (eqFrame_yes (ifC (inkC Ls) (inkF Ls Ls.length)) _).mono ?_
  rintro e w7 ⟨rfl, hb⟩
  replace Su1 := Su1.later hb
  replace Hg2 := Hg2.below hb Hg2.lt
  replace bw := bw.below hb bw.lt
  replace bg := bg.below hb bg.lt
  replace h0 := grown_below h0 hb h0.size
  clear hb
  go_wp2_with fail
  refine (toStrokeS_any _ Ls false _ hys ((ss.below h0).mono h0.size) (Or.inl rfl)).mono ?_
  rintro e w8 ⟨g3, rfl, hgg3, Hg3, hb⟩
  have zg3 : w.heap.size ≤ g3 := Nat.le_trans h0.size hgg3
  replace Su1 := Su1.later hb
  replace Hg2 := Hg2.below hb Hg2.lt
  replace bw := bw.below hb bw.lt
  replace bg := bg.below hb bg.lt
  replace h0 := grown_below h0 hb h0.size
  clear hb
  go_wp2_with fail
  refine (intactStrokeS_any g2 g3 Ls _ hys Hg2 Hg3).mono ?_
  rintro e w9 ⟨rfl, hb⟩
  replace Su1 := Su1.later hb
  replace Hg2 := Hg2.below hb Hg2.lt
  replace bw := bw.below hb bw.lt
  replace bg := bg.below hb bg.lt
  replace Hg3 := Hg3.below hb Hg3.lt
  replace h0 := grown_below h0 hb h0.size
  clear hb
  go_wp2_with fail
  refine (toStrokeS_sl _ Ls true _ hys ((ss.below h0).mono h0.size)).mono ?_
  rintro e w10 ⟨u4, rfl, Su4, hb⟩
  replace bw := bw.below hb bw.lt
  replace h0 := grown_below h0 hb h0.size
  clear hb
  go_wp2_with fail
  refine (implInk_any _ Ls _ hLs Su4).mono ?_
  rintro e w11 ⟨rfl, hb⟩
  replace bw := bw.below hb bw.lt
  replace Su4 := Su4.later hb
  replace h0 := grown_below h0 hb h0.size
  clear hb
  go_wp2_with (first | (refine wpList_store_new (f0 := zeroF) (f := ifC (inkC Ls) (inkF Ls Ls.length)) rfl 41 _ _ rfl rfl rfl (by kernel_rfl) ?_; have bh := Blk.new w11 41 (ifC (inkC Ls) (inkF Ls Ls.length)); have hb := (Below.refl w11.heap.size w11).alloc (Nat.le_refl _) (.cells (FC (ifC (inkC Ls) (inkF Ls Ls.length))) 41); generalize w11.alloc (.cells (FC (ifC (inkC Ls) (inkF Ls Ls.length))) 41) = w12 at *; replace bw := bw.below hb bw.lt) | (refine wpList_load_fr rfl 41 39 _ rfl _ rfl (by with_reducible exact bh) Try.underlying41 (by kernel_rfl) ?_) | (refine wpList_load_fr rfl 41 39 _ rfl _ rfl (by with_reducible exact bw) Try.underlying41 (by kernel_rfl) ?_))
  replace Su4 := Su4.later hb
  replace h0 := grown_below h0 hb h0.size
  clear hb
  go_wp2_with fail
  refine (eqFrame_yes (ifC (inkC Ls) (inkF Ls Ls.length)) _).mono ?_
  rintro e w13 ⟨rfl, hb⟩
  replace Su4 := Su4.later hb
  replace bw := bw.below hb bw.lt
  replace bh := bh.below hb bh.lt
  replace h0 := grown_below h0 hb h0.size
  clear hb
  go_wp2
  go_ret
  exact ⟨rfl, h0⟩
end Go.Proofs.Ytjbjbdkmomkclaa.wFnExactInkStrokes
