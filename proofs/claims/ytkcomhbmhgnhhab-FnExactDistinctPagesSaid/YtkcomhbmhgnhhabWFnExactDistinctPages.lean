/- The walk of the law FnExactDistinctPages: it returns true and writes nothing that was there. -/
import Derived.Test.YtkcomhbmhgnhhabRows
import Derived.Test.YtkcomhbmhgnhhabLBook
import Derived.Test.YtkcomhbmhgnhhabLI64
import Derived.Test.YtkcomhbmhgnhhabDst
namespace Go.Proofs.Ytkcomhbmhgnhhab.wFnExactDistinctPages
set_option maxRecDepth 100000
open Go.RowKit
set_option linter.unusedVariables false
set_option linter.unusedSimpArgs false
set_option maxHeartbeats 4000000 in
theorem walk (vb : Value) (Lb : List (Nat → Nat)) (hLb : ltL Lb) (w : World) (sb : SlAt eFr w w.heap.size vb Lb) :
    Calls Try.prog 4 #[vb] w fun e w' => e = .returned (.bool true) ∧ Below w.heap.size w w' := by
  obtain ⟨Ab, cb, heb⟩ := sb.form
  subst heb
  have hmb := sb.len
  have h0 := Below.refl w.heap.size w
  by_cases hzb : Lb.length ≤ 1000000
  case neg =>
    go_enter Try.func4, Try.ntmps4
    go_wp2_with fail
    refine (szBook_from Ab Lb.length cb (1000000) _ hmb (by omega) (by omega)).mono ?_
    rintro e w' ⟨rfl, rfl⟩
    rw [if_neg (by omega)]
    go_wp2
    go_ret
    exact ⟨rfl, h0⟩
  have hyb : Lb.length ≤ 1000000 := by omega
  go_enter Try.func4, Try.ntmps4
  go_wp2_with fail
  refine (szBook_from Ab Lb.length cb (1000000) _ hmb (by omega) (by omega)).mono ?_
  rintro e w' ⟨rfl, rfl⟩
  rw [if_pos (by omega)]
  have qb : 0 ≤ 1000000 - (Lb.length : Int) := by omega
  go_wp2_with fail
  refine (toBook_sl _ Lb false _ hyb ((sb.below h0).mono h0.size)).mono ?_
  rintro e w1 ⟨u1, rfl, Su1, hb⟩
  replace h0 := grown_below h0 hb h0.size
  clear hb
  have hMx : (ifL (okBC Lb) (dstL Lb Lb.length)).length ≤ 40 := dst_if_len Lb
  have hMy : (ifL (okBC Lb) (plcL Lb)).length ≤ 40 := plc_if_len Lb
  go_wp2_with fail
  refine (specDistinctPages_any _ Lb _ hLb Su1).mono ?_
  rintro e w2 ⟨v4, y4, rfl, O4, P4, hb⟩
  replace Su1 := Su1.later hb
  replace h0 := grown_below h0 hb h0.size
  clear hb
  have n4 : ∀ k, v4.ownBlock = some k → k < w2.heap.size := fun k hk => (O4.lt k hk).2
  have m4 : ∀ k, y4.ownBlock = some k → k < w2.heap.size := fun k hk => (P4.lt k hk).2
  go_wp2_with fail
  refine (toBook_any _ Lb false _ hyb ((sb.below h0).mono h0.size) (Or.inl rfl)).mono ?_
  rintro e w3 ⟨g2, rfl, hgg2, Hg2, hb⟩
  have zg2 : w.heap.size ≤ g2 := Nat.le_trans h0.size hgg2
  replace O4 := O4.below hb
  replace P4 := P4.below hb
  replace h0 := grown_below h0 hb h0.size
  clear hb
  have lg2 := Hg2.lt
  have zz := h0.size
  go_wp2_with fail
  refine (implDistinctPages_any _ Lb _ hLb ((Hg2.sl (n := Lb.length) (c := Lb.length + roomN Lb.length) (by rw [roomy_length]; omega) (by omega) (by have := roomN_le Lb.length; unfold maxLen; omega)).roomy)).mono ?_
  rintro e w4 ⟨v7, y7, rfl, O7, P7, hb⟩
  replace O4 := O4.below hb
  replace P4 := P4.below hb
  replace Hg2 := Hg2.below hb Hg2.lt
  replace h0 := grown_below h0 hb h0.size
  clear hb
  have n7 : ∀ k, v7.ownBlock = some k → w3.heap.size ≤ k := fun k hk => (O7.lt k hk).1
  have m7 : ∀ k, y7.ownBlock = some k → w3.heap.size ≤ k := fun k hk => (P7.lt k hk).1
  have apa : v7.ownBlock = none ∨ v7.ownBlock ≠ y7.ownBlock := own_apart_t O7 P7 (by decide)
  have apb : y7.ownBlock = none ∨ y7.ownBlock ≠ v7.ownBlock := own_apart_t P7 O7 (by decide)
  go_wp2_with fail
  refine (eqBook_same _ _ (ifL (okBC Lb) (dstL Lb Lb.length)) _ (O7.sl (by decide)) (O4.sl (by decide))).mono ?_
  rintro e w5 ⟨rfl, hb⟩
  replace O4 := O4.below hb
  replace P4 := P4.below hb
  replace Hg2 := Hg2.below hb Hg2.lt
  replace O7 := O7.below hb
  replace P7 := P7.below hb
  replace h0 := grown_below h0 hb h0.size
  clear hb
  go_wp2_with fail
  refine (eqInt64S_same _ _ (ifL (okBC Lb) (plcL Lb)) _ (P7.sl (by decide)) (P4.sl (by decide))).mono ?_
  rintro e w6 ⟨rfl, hb⟩
  replace O4 := O4.below hb
  replace P4 := P4.below hb
  replace Hg2 := Hg2.below hb Hg2.lt
  replace O7 := O7.below hb
  replace P7 := P7.below hb
  replace h0 := grown_below h0 hb h0.size
  clear hb
  go_wp2_with fail
  refine (toBook_any _ Lb false _ hyb ((sb.below h0).mono h0.size) (Or.inl rfl)).mono ?_
  rintro e w7 ⟨g3, rfl, hgg3, Hg3, hb⟩
  have zg3 : w.heap.size ≤ g3 := Nat.le_trans h0.size hgg3
  replace O4 := O4.below hb
  replace P4 := P4.below hb
  replace Hg2 := Hg2.below hb Hg2.lt
  replace O7 := O7.below hb
  replace P7 := P7.below hb
  replace h0 := grown_below h0 hb h0.size
  clear hb
  go_wp2_with fail
  refine (intactBook_any g2 g3 Lb _ hyb Hg2 Hg3).mono ?_
  rintro e w8 ⟨rfl, hb⟩
  replace O4 := O4.below hb
  replace P4 := P4.below hb
  replace Hg2 := Hg2.below hb Hg2.lt
  replace O7 := O7.below hb
  replace P7 := P7.below hb
  replace Hg3 := Hg3.below hb Hg3.lt
  replace h0 := grown_below h0 hb h0.size
  clear hb
  go_wp2_with fail
  refine (markBook_any g2 Lb.length _ (101) _ _ (by omega) (by omega) hyb (RowN.of_held Hg2) (by rw [roomy_length]; exact Nat.mul_le_mul_right _ (by omega))).mono ?_
  rintro e w9 ⟨rfl, hmk⟩
  replace O4 := O4.wrote hmk.wrote (fun e => by have := n4 _ e; omega)
  replace P4 := P4.wrote hmk.wrote (fun e => by have := m4 _ e; omega)
  replace O7 := O7.wrote hmk.wrote (fun e => by have := n7 _ e; omega)
  replace P7 := P7.wrote hmk.wrote (fun e => by have := m7 _ e; omega)
  replace h0 := hmk.wrote.below h0 (by omega) h0.size
  clear Hg2 hmk
  go_wp2_with fail
  refine (eqBook_same _ _ (ifL (okBC Lb) (dstL Lb Lb.length)) _ (O7.sl (by decide)) (O4.sl (by decide))).mono ?_
  rintro e w10 ⟨rfl, hb⟩
  replace O4 := O4.below hb
  replace P4 := P4.below hb
  replace O7 := O7.below hb
  replace P7 := P7.below hb
  replace h0 := grown_below h0 hb h0.size
  clear hb
  go_wp2_with fail
  refine (eqInt64S_same _ _ (ifL (okBC Lb) (plcL Lb)) _ (P7.sl (by decide)) (P4.sl (by decide))).mono ?_
  rintro e w11 ⟨rfl, hb⟩
  replace O4 := O4.below hb
  replace P4 := P4.below hb
  replace O7 := O7.below hb
  replace P7 := P7.below hb
  replace h0 := grown_below h0 hb h0.size
  clear hb
  go_wp2_with fail
  refine (markBook_own _ (ifL (okBC Lb) (dstL Lb Lb.length)) _ 101 _ (by omega) (by omega) (by omega) O7).mono ?_
  rintro e w12 ⟨rfl, hgr, K7⟩
  replace O4 := O4.kept hgr (own_apart (B := w3.heap.size) (fun k hk => Nat.lt_of_lt_of_le (n4 k hk) (by omega)) n7)
  replace P4 := P4.kept hgr (own_apart (B := w3.heap.size) (fun k hk => Nat.lt_of_lt_of_le (m4 k hk) (by omega)) n7)
  replace P7 := P7.kept hgr apb
  replace h0 := h0.grown hgr h0.size (fun k hk => Nat.le_trans zz (n7 k hk))
  clear hgr O7
  generalize hq : (ifL (okBC Lb) (dstL Lb Lb.length)).length = q at *
  go_wp2_with fail
  refine (markInt64S_own _ (ifL (okBC Lb) (plcL Lb)) _ (101 + ((q * 12 : Nat) : Int)) _ (by omega) (by omega) (by omega) P7).mono ?_
  rintro e w13 ⟨rfl, hgr, J7⟩
  replace O4 := O4.kept hgr (own_apart (B := w3.heap.size) (fun k hk => Nat.lt_of_lt_of_le (n4 k hk) (by omega)) m7)
  replace P4 := P4.kept hgr (own_apart (B := w3.heap.size) (fun k hk => Nat.lt_of_lt_of_le (m4 k hk) (by omega)) m7)
  replace K7 := K7.kept hgr apa
  replace h0 := h0.grown hgr h0.size (fun k hk => Nat.le_trans zz (m7 k hk))
  clear hgr P7
  generalize hr : (ifL (okBC Lb) (plcL Lb)).length = r at *
  go_wp2_with fail
  refine (heldBook_own _ q 101 _ (by omega) (by omega) (by omega) K7).mono ?_
  rintro e w' ⟨rfl, rfl⟩
  go_wp2_with fail
  refine (heldInt64S_own _ r (101 + ((q * 12 : Nat) : Int)) _ (by omega) (by omega) (by omega) J7).mono ?_
  rintro e w' ⟨rfl, rfl⟩
  go_wp2_with fail
  refine (toBook_sl _ Lb true _ hyb ((sb.below h0).mono h0.size)).mono ?_
  rintro e w14 ⟨u4, rfl, Su4, hb⟩
  replace O4 := O4.below hb
  replace P4 := P4.below hb
  replace K7 := K7.below hb
  replace J7 := J7.below hb
  replace h0 := grown_below h0 hb h0.size
  clear hb
  go_wp2_with fail
  refine (implDistinctPages_any _ Lb _ hLb Su4).mono ?_
  rintro e w15 ⟨v12, y12, rfl, O12, P12, hb⟩
  replace O4 := O4.below hb
  replace P4 := P4.below hb
  replace K7 := K7.below hb
  replace J7 := J7.below hb
  replace Su4 := Su4.later hb
  replace h0 := grown_below h0 hb h0.size
  clear hb
  go_wp2_with fail
  refine (eqBook_same _ _ (ifL (okBC Lb) (dstL Lb Lb.length)) _ (O12.sl (by decide)) (O4.sl (by decide))).mono ?_
  rintro e w16 ⟨rfl, hb⟩
  replace O4 := O4.below hb
  replace P4 := P4.below hb
  replace K7 := K7.below hb
  replace J7 := J7.below hb
  replace Su4 := Su4.later hb
  replace O12 := O12.below hb
  replace P12 := P12.below hb
  replace h0 := grown_below h0 hb h0.size
  clear hb
  go_wp2_with fail
  refine (eqInt64S_same _ _ (ifL (okBC Lb) (plcL Lb)) _ (P12.sl (by decide)) (P4.sl (by decide))).mono ?_
  rintro e w17 ⟨rfl, hb⟩
  replace O4 := O4.below hb
  replace P4 := P4.below hb
  replace K7 := K7.below hb
  replace J7 := J7.below hb
  replace Su4 := Su4.later hb
  replace O12 := O12.below hb
  replace P12 := P12.below hb
  replace h0 := grown_below h0 hb h0.size
  clear hb
  go_wp2_with fail
  refine (heldBook_own _ q 101 _ (by omega) (by omega) (by omega) K7).mono ?_
  rintro e w' ⟨rfl, rfl⟩
  go_wp2_with fail
  refine (heldInt64S_own _ r (101 + ((q * 12 : Nat) : Int)) _ (by omega) (by omega) (by omega) J7).mono ?_
  rintro e w' ⟨rfl, rfl⟩
  go_wp2
  go_ret
  exact ⟨rfl, h0⟩
end Go.Proofs.Ytkcomhbmhgnhhab.wFnExactDistinctPages
