import Derived.Test.YtpmlepgnokbpaaaRows
import Derived.Test.YtpmlepgnokbpaaaM4
import Derived.Test.YtpmlepgnokbpaaaM7
import Derived.Test.YtpmlepgnokbpaaaM6
import Derived.Test.YtpmlepgnokbpaaaM18
/- The walk of the law FnExactFlattenScene: it returns true and writes nothing that was there. -/
namespace Go.Proofs.Ytpmlepgnokbpaaa.wFnExactFlattenScene
set_option maxRecDepth 100000
open Go.RowKit
set_option linter.unusedVariables false
set_option linter.unusedSimpArgs false
set_option maxHeartbeats 4000000 in
theorem walk (vs : Value) (Ls : List Ly) (x : Int) (y : Int) (hLs : ltLy Ls) (hx : (Lit.int .i64 x).wf = true) (hy : (Lit.int .i64 y).wf = true) (w : World) (ss : SlAt eLy w w.heap.size vs Ls) :
    Calls Try.prog 12 #[vs, .int .i64 x, .int .i64 y] w fun e w' => e = .returned (.bool true) ∧ Below w.heap.size w w' := by
  obtain ⟨As, cs, hes⟩ := ss.form
  subst hes
  have hms := ss.len
  have h0 := Below.refl w.heap.size w
  by_cases hzs : Ls.length ≤ 1000000
  case neg =>
    go_enter Try.func12, Try.ntmps12
    go_wp2_with fail
    refine (szScene_from As Ls.length cs (1000000) _ hms (by omega) (by omega)).mono ?_
    rintro e w' ⟨rfl, rfl⟩
    rw [if_neg (by omega)]
    go_wp2
    go_ret
    exact ⟨rfl, h0⟩
  have hys : Ls.length ≤ 1000000 := by omega
  go_enter Try.func12, Try.ntmps12
  go_wp2_with fail
  refine (szScene_from As Ls.length cs (1000000) _ hms (by omega) (by omega)).mono ?_
  rintro e w' ⟨rfl, rfl⟩
  rw [if_pos (by omega)]
  have qs : 0 ≤ 1000000 - (Ls.length : Int) := by omega
  go_wp2_with fail
  refine (toScene_sl _ Ls false _ hys ((ss.below h0).mono h0.size)).mono ?_
  rintro e w1 ⟨u1, rfl, Su1, hb⟩
  replace h0 := grown_below h0 hb h0.size
  clear hb
  go_wp2_with fail
  refine (specFlatten_any _ Ls x y _ hLs Su1).mono ?_
  rintro e w2 ⟨rfl, hb⟩
  replace Su1 := Su1.later hb
  replace h0 := grown_below h0 hb h0.size
  clear hb
  go_wp2_with (refine wpList_store_celNew (i0 := zeroF) (k0 := zeroF) (i := fsI Ls x y) (k := fsK Ls x y) rfl 29 _ _ rfl rfl rfl (by kernel_rfl) ?_; have bw := CelAt.new w2 29 (fsI Ls x y) (fsK Ls x y); have hb := (Below.refl w2.heap.size w2).alloc (Nat.le_refl _) (.cells (CC (fsI Ls x y) (fsK Ls x y)) 29); generalize w2.alloc (.cells (CC (fsI Ls x y) (fsK Ls x y)) 29) = w3 at *)
  replace Su1 := Su1.later hb
  replace h0 := grown_below h0 hb h0.size
  clear hb
  go_wp2_with fail
  refine (toScene_any _ Ls false _ hys ((ss.below h0).mono h0.size) (Or.inl rfl)).mono ?_
  rintro e w4 ⟨g2, rfl, hgg2, Hg2, hb⟩
  have zg2 : w.heap.size ≤ g2 := Nat.le_trans h0.size hgg2
  replace Su1 := Su1.later hb
  replace bw := bw.below hb bw.lt
  replace h0 := grown_below h0 hb h0.size
  clear hb
  go_wp2_with fail
  refine (implFlatten_any _ Ls x y _ hLs ((Hg2.sl (n := Ls.length) (c := Ls.length + roomN Ls.length) (by rw [roomy_length]; omega) (by omega) (by have := roomN_le Ls.length; unfold maxLen; omega)).roomy)).mono ?_
  rintro e w5 ⟨rfl, hb⟩
  replace Su1 := Su1.later hb
  replace bw := bw.below hb bw.lt
  replace Hg2 := Hg2.below hb Hg2.lt
  replace h0 := grown_below h0 hb h0.size
  clear hb
  go_wp2_with (first | (refine wpList_store_celNew (i0 := zeroF) (k0 := zeroF) (i := fsI Ls x y) (k := fsK Ls x y) rfl 29 _ _ rfl rfl rfl (by kernel_rfl) ?_; have bg := CelAt.new w5 29 (fsI Ls x y) (fsK Ls x y); have hb := (Below.refl w5.heap.size w5).alloc (Nat.le_refl _) (.cells (CC (fsI Ls x y) (fsK Ls x y)) 29); generalize w5.alloc (.cells (CC (fsI Ls x y) (fsK Ls x y)) 29) = w6 at *; replace bw := bw.below hb bw.lt) | (refine wpList_load_cel rfl 29 _ rfl rfl (by with_reducible exact bg) Try.underlying29 rfl (by kernel_rfl) ?_) | (refine wpList_load_cel rfl 29 _ rfl rfl (by with_reducible exact bw) Try.underlying29 rfl (by kernel_rfl) ?_))
  replace Su1 := Su1.later hb
  replace Hg2 := Hg2.below hb Hg2.lt
  replace h0 := grown_below h0 hb h0.size
  clear hb
  go_wp2_with fail
  refine (eqCel_same _ _ _).mono ?_
  rintro e w7 ⟨rfl, hb⟩
  replace Su1 := Su1.later hb
  replace Hg2 := Hg2.below hb Hg2.lt
  replace bw := bw.below hb bw.lt
  replace bg := bg.below hb bg.lt
  replace h0 := grown_below h0 hb h0.size
  clear hb
  go_wp2_with fail
  refine (toScene_any _ Ls false _ hys ((ss.below h0).mono h0.size) (Or.inl rfl)).mono ?_
  rintro e w8 ⟨g3, rfl, hgg3, Hg3, hb⟩
  have zg3 : w.heap.size ≤ g3 := Nat.le_trans h0.size hgg3
  replace Su1 := Su1.later hb
  replace Hg2 := Hg2.below hb Hg2.lt
  replace bw := bw.below hb bw.lt
  replace bg := bg.below hb bg.lt
  replace h0 := grown_below h0 hb h0.size
  clear hb
  go_wp2_with fail
  refine (intactScene_any g2 g3 Ls _ hys Hg2 Hg3).mono ?_
  rintro e w9 ⟨rfl, hb⟩
  replace Su1 := Su1.later hb
  replace Hg2 := Hg2.below hb Hg2.lt
  replace bw := bw.below hb bw.lt
  replace bg := bg.below hb bg.lt
  replace Hg3 := Hg3.below hb Hg3.lt
  replace h0 := grown_below h0 hb h0.size
  clear hb
  go_wp2_with fail
  refine (toScene_sl _ Ls true _ hys ((ss.below h0).mono h0.size)).mono ?_
  rintro e w10 ⟨u4, rfl, Su4, hb⟩
  replace bw := bw.below hb bw.lt
  replace h0 := grown_below h0 hb h0.size
  clear hb
  go_wp2_with fail
  refine (implFlatten_any _ Ls x y _ hLs Su4).mono ?_
  rintro e w11 ⟨rfl, hb⟩
  replace bw := bw.below hb bw.lt
  replace Su4 := Su4.later hb
  replace h0 := grown_below h0 hb h0.size
  clear hb
  go_wp2_with (first | (refine wpList_store_celNew (i0 := zeroF) (k0 := zeroF) (i := fsI Ls x y) (k := fsK Ls x y) rfl 29 _ _ rfl rfl rfl (by kernel_rfl) ?_; have bh := CelAt.new w11 29 (fsI Ls x y) (fsK Ls x y); have hb := (Below.refl w11.heap.size w11).alloc (Nat.le_refl _) (.cells (CC (fsI Ls x y) (fsK Ls x y)) 29); generalize w11.alloc (.cells (CC (fsI Ls x y) (fsK Ls x y)) 29) = w12 at *; replace bw := bw.below hb bw.lt) | (refine wpList_load_cel rfl 29 _ rfl rfl (by with_reducible exact bh) Try.underlying29 rfl (by kernel_rfl) ?_) | (refine wpList_load_cel rfl 29 _ rfl rfl (by with_reducible exact bw) Try.underlying29 rfl (by kernel_rfl) ?_))
  replace Su4 := Su4.later hb
  replace h0 := grown_below h0 hb h0.size
  clear hb
  go_wp2_with fail
  refine (eqCel_same _ _ _).mono ?_
  rintro e w13 ⟨rfl, hb⟩
  replace Su4 := Su4.later hb
  replace bw := bw.below hb bw.lt
  replace bh := bh.below hb bh.lt
  replace h0 := grown_below h0 hb h0.size
  clear hb
  go_wp2
  go_ret
  exact ⟨rfl, h0⟩
end Go.Proofs.Ytpmlepgnokbpaaa.wFnExactFlattenScene
