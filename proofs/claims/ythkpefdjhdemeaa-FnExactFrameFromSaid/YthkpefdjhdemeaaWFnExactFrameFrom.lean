/- The walk of the law FnExactFrameFrom: it returns true and writes nothing that was there. -/
import Derived.Test.YthkpefdjhdemeaaRows
import Derived.Test.YthkpefdjhdemeaaL1
import Derived.Test.YthkpefdjhdemeaaFrom
namespace Go.Proofs.Ythkpefdjhdemeaa.wFnExactFrameFrom
set_option maxRecDepth 100000
open Go.RowKit
set_option linter.unusedVariables false
set_option linter.unusedSimpArgs false
set_option maxHeartbeats 4000000 in
theorem walk (vd : Value) (L : List (Int × Int)) (hL : ltD L) (w : World) (s : SlAt eSh w w.heap.size vd L) :
    Calls Try.prog 3 #[vd] w fun e w' => e = .returned (.bool true) ∧ Below w.heap.size w w' := by
  obtain ⟨A, c, he⟩ := s.form
  subst he
  have hm := s.len
  have h0 := Below.refl w.heap.size w
  by_cases hz : L.length ≤ 1000000
  case neg =>
    go_enter Try.func3, Try.ntmps3
    go_wp2_with fail
    refine (szDotS_from A L.length c 1000000 _ hm (by omega) (by omega)).mono ?_
    rintro e w' ⟨rfl, rfl⟩
    rw [if_neg (by omega)]
    go_wp2
    go_ret
    exact ⟨rfl, h0⟩
  have heq := eqF_refl (fromF L)
  go_enter Try.func3, Try.ntmps3
  go_wp2_with fail
  refine (szDotS_from A L.length c 1000000 _ hm (by omega) (by omega)).mono ?_
  rintro e w' ⟨rfl, rfl⟩
  rw [if_pos (by omega)]
  have q : 0 ≤ 1000000 - (L.length : Int) := by omega
  go_wp2_with fail
  refine (toDotS_sl _ L false _ hz ((s.below h0).mono h0.size)).mono ?_
  rintro e w1 ⟨u1, rfl, S1, hb⟩
  replace h0 := grown_below h0 hb h0.size
  clear hb
  go_wp2_with fail
  refine (specFrom_any _ L _ hL S1).mono ?_
  rintro e w2 ⟨rfl, hb⟩
  replace S1 := S1.later hb
  replace h0 := grown_below h0 hb h0.size
  clear hb
  clear S1
  go_wp2_with (refine wpList_store_new (f0 := zeroF) (f := fromF L) rfl 26 _ _ rfl rfl rfl (by kernel_rfl) ?_; have bw := Blk.new w2 26 (fromF L); replace h0 := h0.alloc h0.size (.cells (FC (fromF L)) 26); generalize w2.alloc (.cells (FC (fromF L)) 26) = w3 at *)
  refine (toDotS_any _ L false _ hz ((s.below h0).mono h0.size) (Or.inl rfl)).mono ?_
  rintro e w4 ⟨g, rfl, hg, H, hb⟩
  replace bw := bw.below hb bw.lt
  replace h0 := grown_below h0 hb h0.size
  clear hb
  go_wp2_with fail
  refine (implFrom_any _ L _ hL ((H.sl (n := L.length) (c := L.length + roomN L.length) (by rw [roomy_length]; omega) (by omega) (by have := roomN_le L.length; unfold maxLen; omega)).roomy)).mono ?_
  rintro e w5 ⟨rfl, hb⟩
  replace bw := bw.below hb bw.lt
  replace H := H.below hb H.lt
  replace h0 := grown_below h0 hb h0.size
  clear hb
  go_wp2_with (first | (refine wpList_store_new (f0 := zeroF) (f := fromF L) rfl 26 _ _ rfl rfl rfl (by kernel_rfl) ?_; have bg := Blk.new w5 26 (fromF L); replace bw := bw.alloc (.cells (FC (fromF L)) 26); replace H := Row.alloc H (.cells (FC (fromF L)) 26); replace h0 := h0.alloc h0.size (.cells (FC (fromF L)) 26); generalize w5.alloc (.cells (FC (fromF L)) 26) = w6 at *) | (refine wpList_load_fr rfl 26 24 _ rfl _ rfl (by assumption) Try.underlying26 (by kernel_rfl) ?_))
  refine (eqFrame_any _ _ _).mono ?_
  rintro e w7 ⟨rfl, hb⟩
  replace bw := bw.below hb bw.lt
  replace H := H.below hb H.lt
  replace bg := bg.below hb bg.lt
  replace h0 := grown_below h0 hb h0.size
  clear hb
  rw [heq]
  go_wp2_with fail
  refine (toDotS_any _ L false _ hz ((s.below h0).mono h0.size) (Or.inl rfl)).mono ?_
  rintro e w8 ⟨g2, rfl, hg2, H2, hb⟩
  replace bw := bw.below hb bw.lt
  replace H := H.below hb H.lt
  replace h0 := grown_below h0 hb h0.size
  clear hb
  go_wp2_with fail
  refine (intactDotS_any g g2 L _ hz H H2).mono ?_
  rintro e w9 ⟨rfl, hb⟩
  replace bw := bw.below hb bw.lt
  replace H := H.below hb H.lt
  replace H2 := H2.below hb H2.lt
  replace h0 := grown_below h0 hb h0.size
  clear hb
  clear H H2 bg
  go_wp2_with fail
  refine (toDotS_sl _ L true _ hz ((s.below h0).mono h0.size)).mono ?_
  rintro e w10 ⟨u3, rfl, S3, hb⟩
  replace bw := bw.below hb bw.lt
  replace h0 := grown_below h0 hb h0.size
  clear hb
  go_wp2_with fail
  refine (implFrom_any _ L _ hL S3).mono ?_
  rintro e w11 ⟨rfl, hb⟩
  replace bw := bw.below hb bw.lt
  replace S3 := S3.later hb
  replace h0 := grown_below h0 hb h0.size
  clear hb
  clear S3
  go_wp2_with (first | (refine wpList_store_new (f0 := zeroF) (f := fromF L) rfl 26 _ _ rfl rfl rfl (by kernel_rfl) ?_; have bh := Blk.new w11 26 (fromF L); replace bw := bw.alloc (.cells (FC (fromF L)) 26); replace h0 := h0.alloc h0.size (.cells (FC (fromF L)) 26); generalize w11.alloc (.cells (FC (fromF L)) 26) = w12 at *) | (refine wpList_load_fr rfl 26 24 _ rfl _ rfl (by assumption) Try.underlying26 (by kernel_rfl) ?_))
  refine (eqFrame_any _ _ _).mono ?_
  rintro e w13 ⟨rfl, hb⟩
  replace bw := bw.below hb bw.lt
  replace bh := bh.below hb bh.lt
  replace h0 := grown_below h0 hb h0.size
  clear hb
  rw [heq]
  go_wp2_with fail
  go_ret
  exact ⟨rfl, h0⟩
end Go.Proofs.Ythkpefdjhdemeaa.wFnExactFrameFrom
