/- The walk of the law FnExactParityOf: it returns true and writes nothing that was there. -/
import Derived.Test.YtjbjbdkmomkclaaRows
import Derived.Test.YtjbjbdkmomkclaaLBook
import Derived.Test.YtjbjbdkmomkclaaLI64
import Derived.Test.YtjbjbdkmomkclaaEqYes
import Derived.Test.YtjbjbdkmomkclaaPar
namespace Go.Proofs.Ytjbjbdkmomkclaa.wFnExactParityOf
set_option maxRecDepth 100000
open Go.RowKit
set_option linter.unusedVariables false
set_option linter.unusedSimpArgs false
set_option maxHeartbeats 4000000 in
theorem walk (vb : Value) (Lb : List (Nat → Nat)) (hLb : ltL Lb) (w : World) (sb : SlAt eFr w w.heap.size vb Lb) :
    Calls Try.prog 6 #[vb] w fun e w' => e = .returned (.bool true) ∧ Below w.heap.size w w' := by
  obtain ⟨Ab, cb, heb⟩ := sb.form
  subst heb
  have hmb := sb.len
  have h0 := Below.refl w.heap.size w
  by_cases hzb : Lb.length ≤ 1000000
  case neg =>
    go_enter Try.func6, Try.ntmps6
    go_wp2_with fail
    refine (szBook_from Ab Lb.length cb (1000000) _ hmb (by omega) (by omega)).mono ?_
    rintro e w' ⟨rfl, rfl⟩
    rw [if_neg (by omega)]
    go_wp2
    go_ret
    exact ⟨rfl, h0⟩
  have hyb : Lb.length ≤ 1000000 := by omega
  go_enter Try.func6, Try.ntmps6
  go_wp2_with fail
  refine (szBook_from Ab Lb.length cb (1000000) _ hmb (by omega) (by omega)).mono ?_
  rintro e w' ⟨rfl, rfl⟩
  rw [if_pos (by omega)]
  have qb : 0 ≤ 1000000 - (Lb.length : Int) := by omega
  go_wp2_with fail
  refine (toBook_sl _ Lb false _ hyb ((sb.below h0).mono h0.size)).mono ?_
  rintro e w1 ⟨u1, rfl, Su1, hb⟩
  replace h0 := grown_below h0 hb h0.size
  clear hb
  go_wp2_with fail
  refine (specParityOf_any _ Lb _ hLb Su1).mono ?_
  rintro e w2 ⟨rfl, hb⟩
  replace Su1 := Su1.later hb
  replace h0 := grown_below h0 hb h0.size
  clear hb
  go_wp2_with (refine wpList_store_new (f0 := zeroF) (f := ifC (okBC Lb) (parF Lb)) rfl 41 _ _ rfl rfl rfl (by kernel_rfl) ?_; have bw := Blk.new w2 41 (ifC (okBC Lb) (parF Lb)); have hb := (Below.refl w2.heap.size w2).alloc (Nat.le_refl _) (.cells (FC (ifC (okBC Lb) (parF Lb))) 41); generalize w2.alloc (.cells (FC (ifC (okBC Lb) (parF Lb))) 41) = w3 at *)
  replace Su1 := Su1.later hb
  replace h0 := grown_below h0 hb h0.size
  clear hb
  go_wp2_with fail
  refine (toBook_any _ Lb false _ hyb ((sb.below h0).mono h0.size) (Or.inl rfl)).mono ?_
  rintro e w4 ⟨g2, rfl, hgg2, Hg2, hb⟩
  have zg2 : w.heap.size ≤ g2 := Nat.le_trans h0.size hgg2
  replace Su1 := Su1.later hb
  replace bw := bw.below hb bw.lt
  replace h0 := grown_below h0 hb h0.size
  clear hb
  go_wp2_with fail
  refine (implParityOf_any _ Lb _ hLb ((Hg2.sl (n := Lb.length) (c := Lb.length + roomN Lb.length) (by rw [roomy_length]; omega) (by omega) (by have := roomN_le Lb.length; unfold maxLen; omega)).roomy)).mono ?_
  rintro e w5 ⟨rfl, hb⟩
  replace Su1 := Su1.later hb
  replace bw := bw.below hb bw.lt
  replace Hg2 := Hg2.below hb Hg2.lt
  replace h0 := grown_below h0 hb h0.size
  clear hb
  go_wp2_with (first | (refine wpList_store_new (f0 := zeroF) (f := ifC (okBC Lb) (parF Lb)) rfl 41 _ _ rfl rfl rfl (by kernel_rfl) ?_; have bg := Blk.new w5 41 (ifC (okBC Lb) (parF Lb)); have hb := (Below.refl w5.heap.size w5).alloc (Nat.le_refl _) (.cells (FC (ifC (okBC Lb) (parF Lb))) 41); generalize w5.alloc (.cells (FC (ifC (okBC Lb) (parF Lb))) 41) = w6 at *; replace bw := bw.below hb bw.lt) | (refine wpList_load_fr rfl 41 39 _ rfl _ rfl (by with_reducible exact bg) Try.underlying41 (by kernel_rfl) ?_) | (refine wpList_load_fr rfl 41 39 _ rfl _ rfl (by with_reducible exact bw) Try.underlying41 (by kernel_rfl) ?_))
  replace Su1 := Su1.later hb
  replace Hg2 := Hg2.below hb Hg2.lt
  replace h0 := grown_below h0 hb h0.size
  clear hb
  go_wp2_with fail
  refine (eqFrame_yes (ifC (okBC Lb) (parF Lb)) _).mono ?_
  rintro e w7 ⟨rfl, hb⟩
  replace Su1 := Su1.later hb
  replace Hg2 := Hg2.below hb Hg2.lt
  replace bw := bw.below hb bw.lt
  replace bg := bg.below hb bg.lt
  replace h0 := grown_below h0 hb h0.size
  clear hb
  go_wp2_with fail
  refine (toBook_any _ Lb false _ hyb ((sb.below h0).mono h0.size) (Or.inl rfl)).mono ?_
  rintro e w8 ⟨g3, rfl, hgg3, Hg3, hb⟩
  have zg3 : w.heap.size ≤ g3 := Nat.le_trans h0.size hgg3
  replace Su1 := Su1.later hb
  replace Hg2 := Hg2.below hb Hg2.lt
  replace bw := bw.below hb bw.lt
  replace bg := bg.below hb bg.lt
  replace h0 := grown_below h0 hb h0.size
  clear hb
  go_wp2_with fail
  refine (intactBook_any g2 g3 Lb _ hyb Hg2 Hg3).mono ?_
  rintro e w9 ⟨rfl, hb⟩
  replace Su1 := Su1.later hb
  replace Hg2 := Hg2.below hb Hg2.lt
  replace bw := bw.below hb bw.lt
  replace bg := bg.below hb bg.lt
  replace Hg3 := Hg3.below hb Hg3.lt
  replace h0 := grown_below h0 hb h0.size
  clear hb
  go_wp2_with fail
  refine (toBook_sl _ Lb true _ hyb ((sb.below h0).mono h0.size)).mono ?_
  rintro e w10 ⟨u4, rfl, Su4, hb⟩
  replace bw := bw.below hb bw.lt
  replace h0 := grown_below h0 hb h0.size
  clear hb
  go_wp2_with fail
  refine (implParityOf_any _ Lb _ hLb Su4).mono ?_
  rintro e w11 ⟨rfl, hb⟩
  replace bw := bw.below hb bw.lt
  replace Su4 := Su4.later hb
  replace h0 := grown_below h0 hb h0.size
  clear hb
  go_wp2_with (first | (refine wpList_store_new (f0 := zeroF) (f := ifC (okBC Lb) (parF Lb)) rfl 41 _ _ rfl rfl rfl (by kernel_rfl) ?_; have bh := Blk.new w11 41 (ifC (okBC Lb) (parF Lb)); have hb := (Below.refl w11.heap.size w11).alloc (Nat.le_refl _) (.cells (FC (ifC (okBC Lb) (parF Lb))) 41); generalize w11.alloc (.cells (FC (ifC (okBC Lb) (parF Lb))) 41) = w12 at *; replace bw := bw.below hb bw.lt) | (refine wpList_load_fr rfl 41 39 _ rfl _ rfl (by with_reducible exact bh) Try.underlying41 (by kernel_rfl) ?_) | (refine wpList_load_fr rfl 41 39 _ rfl _ rfl (by with_reducible exact bw) Try.underlying41 (by kernel_rfl) ?_))
  replace Su4 := Su4.later hb
  replace h0 := grown_below h0 hb h0.size
  clear hb
  go_wp2_with fail
  refine (eqFrame_yes (ifC (okBC Lb) (parF Lb)) _).mono ?_
  rintro e w13 ⟨rfl, hb⟩
  replace Su4 := Su4.later hb
  replace bw := bw.below hb bw.lt
  replace bh := bh.below hb bh.lt
  replace h0 := grown_below h0 hb h0.size
  clear hb
  go_wp2
  go_ret
  exact ⟨rfl, h0⟩
end Go.Proofs.Ytjbjbdkmomkclaa.wFnExactParityOf
