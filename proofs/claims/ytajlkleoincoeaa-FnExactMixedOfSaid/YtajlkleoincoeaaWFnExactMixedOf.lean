/- The walk of the law FnExactMixedOf: it returns true and writes nothing that was there. -/
import Derived.Test.YtajlkleoincoeaaRows
import Derived.Test.YtajlkleoincoeaaLBook
import Derived.Test.YtajlkleoincoeaaLI64
import Derived.Test.YtajlkleoincoeaaInts
import Derived.Test.YtajlkleoincoeaaMixI
namespace Go.Proofs.Ytajlkleoincoeaa.wFnExactMixedOf
set_option maxRecDepth 100000
open Go.RowKit
set_option linter.unusedVariables false
set_option linter.unusedSimpArgs false
set_option maxHeartbeats 4000000 in
theorem walk (vb : Value) (Lb : List (Nat → Nat)) (vo : Value) (Lo : List Int) (hLb : ltL Lb) (hLo : ltI Lo) (rb : Lb.length ≤ 140737488351232) (ro : Lo.length ≤ 140737488351232) (w : World) (sb : SlAt eFr w w.heap.size vb Lb) (so : SlAt (eI .i64) w w.heap.size vo Lo) :
    Calls Try.prog 4 #[vb, vo] w fun e w' => e = .returned (.bool true) ∧ Below w.heap.size w w' := by
  obtain ⟨Ab, cb, heb⟩ := sb.form
  subst heb
  have hmb := sb.len
  obtain ⟨Ao, co, heo⟩ := so.form
  subst heo
  have hmo := so.len
  have h0 := Below.refl w.heap.size w
  by_cases hzb : Lo.length + Lb.length ≤ 1000000
  case neg =>
    have kw0 : IntKind.i64.wrap (1000000 - (Lo.length : Int)) = 1000000 - (Lo.length : Int) := IntWalk.i64_in _ (by omega)
    go_enter Try.func4, Try.ntmps4
    go_wp2_with fail
    refine (szBook_reach Ab Lb.length cb (1000000 - (Lo.length : Int)) _ rb (by omega) (by omega)).mono ?_
    rintro e w' ⟨rfl, rfl⟩
    rw [if_neg (by omega)]
    go_wp2
    go_ret
    exact ⟨rfl, h0⟩
  have hyb : Lb.length ≤ 1000000 := by omega
  have hyo : Lo.length ≤ 1000000 := by omega
  have kw0 : IntKind.i64.wrap (1000000 - (Lo.length : Int)) = 1000000 - (Lo.length : Int) := IntWalk.i64_in _ (by omega)
  go_enter Try.func4, Try.ntmps4
  go_wp2_with fail
  refine (szBook_reach Ab Lb.length cb (1000000 - (Lo.length : Int)) _ rb (by omega) (by omega)).mono ?_
  rintro e w' ⟨rfl, rfl⟩
  rw [if_pos (by omega)]
  have qb : 0 ≤ 1000000 - (Lo.length : Int) - (Lb.length : Int) := by omega
  clear kw0
  go_wp2_with fail
  refine (toBook_sl _ Lb false _ hyb ((sb.below h0).mono h0.size)).mono ?_
  rintro e w1 ⟨u1, rfl, Su1, hb⟩
  replace h0 := grown_below h0 hb h0.size
  clear hb
  go_wp2_with fail
  refine (toInt64S_sl _ Lo false _ hyo ((so.below h0).mono h0.size)).mono ?_
  rintro e w2 ⟨u2, rfl, Su2, hb⟩
  replace Su1 := Su1.later hb
  replace h0 := grown_below h0 hb h0.size
  clear hb
  have hMx : (ifL (mxC Lb Lo) (splL Lb Lo true Lo.length)).length ≤ 40 := mx_if_len Lb Lo true
  have hMy : (ifL (mxC Lb Lo) (splL Lb Lo false Lo.length)).length ≤ 40 := mx_if_len Lb Lo false
  go_wp2_with fail
  refine (specMixedOf_any _ _ Lb Lo _ hyo Su1 Su2).mono ?_
  rintro e w3 ⟨v4, y4, rfl, O4, P4, _, hb⟩
  replace Su1 := Su1.later hb
  replace Su2 := Su2.later hb
  replace h0 := grown_below h0 hb h0.size
  clear hb
  have n4 : ∀ k, v4.ownBlock = some k → k < w3.heap.size := fun k hk => (O4.lt k hk).2
  have m4 : ∀ k, y4.ownBlock = some k → k < w3.heap.size := fun k hk => (P4.lt k hk).2
  go_wp2_with fail
  refine (toBook_any _ Lb false _ hyb ((sb.below h0).mono h0.size) (Or.inl rfl)).mono ?_
  rintro e w4 ⟨g3, rfl, hgg3, Hg3, hb⟩
  have zg3 : w.heap.size ≤ g3 := Nat.le_trans h0.size hgg3
  replace O4 := O4.below hb
  replace P4 := P4.below hb
  replace h0 := grown_below h0 hb h0.size
  clear hb
  have lg3 := Hg3.lt
  go_wp2_with fail
  refine (toInt64S_any _ Lo false _ hyo ((so.below h0).mono h0.size) (Or.inl rfl)).mono ?_
  rintro e w5 ⟨g4, rfl, hgg4, Hg4, hb⟩
  have zg4 : w.heap.size ≤ g4 := Nat.le_trans h0.size hgg4
  replace O4 := O4.below hb
  replace P4 := P4.below hb
  replace Hg3 := Hg3.below hb Hg3.lt
  replace h0 := grown_below h0 hb h0.size
  clear hb
  have lg4 := Hg4.lt
  have zz := h0.size
  go_wp2_with fail
  refine (implMixedOf_any _ _ Lb Lo _ hLb ((Hg3.sl (n := Lb.length) (c := Lb.length + roomN Lb.length) (by rw [roomy_length]; omega) (by omega) (by have := roomN_le Lb.length; unfold maxLen; omega)).roomy) ((Hg4.sl (n := Lo.length) (c := Lo.length + roomN Lo.length) (by rw [roomy_length]; omega) (by omega) (by have := roomN_le Lo.length; unfold maxLen; omega)).roomy)).mono ?_
  rintro e w6 ⟨v7, y7, rfl, O7, P7, ap7, hb⟩
  replace O4 := O4.below hb
  replace P4 := P4.below hb
  replace Hg3 := Hg3.below hb Hg3.lt
  replace Hg4 := Hg4.below hb Hg4.lt
  replace h0 := grown_below h0 hb h0.size
  clear hb
  have n7 : ∀ k, v7.ownBlock = some k → w5.heap.size ≤ k := fun k hk => (O7.lt k hk).1
  have m7 : ∀ k, y7.ownBlock = some k → w5.heap.size ≤ k := fun k hk => (P7.lt k hk).1
  have apa : v7.ownBlock = none ∨ v7.ownBlock ≠ y7.ownBlock := ap7
  have apb : y7.ownBlock = none ∨ y7.ownBlock ≠ v7.ownBlock := apart_symm ap7
  go_wp2_with fail
  refine (eqBook_same _ _ (ifL (mxC Lb Lo) (splL Lb Lo true Lo.length)) _ (O7.sl (by decide)) (O4.sl (by decide))).mono ?_
  rintro e w7 ⟨rfl, hb⟩
  replace O4 := O4.below hb
  replace P4 := P4.below hb
  replace Hg3 := Hg3.below hb Hg3.lt
  replace Hg4 := Hg4.below hb Hg4.lt
  replace O7 := O7.below hb
  replace P7 := P7.below hb
  replace h0 := grown_below h0 hb h0.size
  clear hb
  go_wp2_with fail
  refine (eqBook_same _ _ (ifL (mxC Lb Lo) (splL Lb Lo false Lo.length)) _ (P7.sl (by decide)) (P4.sl (by decide))).mono ?_
  rintro e w8 ⟨rfl, hb⟩
  replace O4 := O4.below hb
  replace P4 := P4.below hb
  replace Hg3 := Hg3.below hb Hg3.lt
  replace Hg4 := Hg4.below hb Hg4.lt
  replace O7 := O7.below hb
  replace P7 := P7.below hb
  replace h0 := grown_below h0 hb h0.size
  clear hb
  go_wp2_with fail
  refine (toBook_any _ Lb false _ hyb ((sb.below h0).mono h0.size) (Or.inl rfl)).mono ?_
  rintro e w9 ⟨g5, rfl, hgg5, Hg5, hb⟩
  have zg5 : w.heap.size ≤ g5 := Nat.le_trans h0.size hgg5
  replace O4 := O4.below hb
  replace P4 := P4.below hb
  replace Hg3 := Hg3.below hb Hg3.lt
  replace Hg4 := Hg4.below hb Hg4.lt
  replace O7 := O7.below hb
  replace P7 := P7.below hb
  replace h0 := grown_below h0 hb h0.size
  clear hb
  go_wp2_with fail
  refine (intactBook_any g3 g5 Lb _ hyb Hg3 Hg5).mono ?_
  rintro e w10 ⟨rfl, hb⟩
  replace O4 := O4.below hb
  replace P4 := P4.below hb
  replace Hg3 := Hg3.below hb Hg3.lt
  replace Hg4 := Hg4.below hb Hg4.lt
  replace O7 := O7.below hb
  replace P7 := P7.below hb
  replace Hg5 := Hg5.below hb Hg5.lt
  replace h0 := grown_below h0 hb h0.size
  clear hb
  go_wp2_with fail
  refine (toInt64S_any _ Lo false _ hyo ((so.below h0).mono h0.size) (Or.inl rfl)).mono ?_
  rintro e w11 ⟨g6, rfl, hgg6, Hg6, hb⟩
  have zg6 : w.heap.size ≤ g6 := Nat.le_trans h0.size hgg6
  replace O4 := O4.below hb
  replace P4 := P4.below hb
  replace Hg3 := Hg3.below hb Hg3.lt
  replace Hg4 := Hg4.below hb Hg4.lt
  replace O7 := O7.below hb
  replace P7 := P7.below hb
  replace h0 := grown_below h0 hb h0.size
  clear hb
  go_wp2_with fail
  refine (intactInt64S_any g4 g6 Lo _ hyo Hg4 Hg6).mono ?_
  rintro e w12 ⟨rfl, hb⟩
  replace O4 := O4.below hb
  replace P4 := P4.below hb
  replace Hg3 := Hg3.below hb Hg3.lt
  replace Hg4 := Hg4.below hb Hg4.lt
  replace O7 := O7.below hb
  replace P7 := P7.below hb
  replace Hg6 := Hg6.below hb Hg6.lt
  replace h0 := grown_below h0 hb h0.size
  clear hb
  go_wp2_with fail
  refine (markBook_any g3 Lb.length _ (101) _ _ (by omega) (by omega) hyb (RowN.of_held Hg3) (by rw [roomy_length]; exact Nat.mul_le_mul_right _ (by omega))).mono ?_
  rintro e w13 ⟨rfl, hmk⟩
  replace O4 := O4.wrote hmk.wrote (fun e => by have := n4 _ e; omega)
  replace P4 := P4.wrote hmk.wrote (fun e => by have := m4 _ e; omega)
  replace O7 := O7.wrote hmk.wrote (fun e => by have := n7 _ e; omega)
  replace P7 := P7.wrote hmk.wrote (fun e => by have := m7 _ e; omega)
  replace Hg4 := Hg4.wrote hmk.wrote (by omega)
  replace h0 := hmk.wrote.below h0 (by omega) h0.size
  clear Hg3 hmk
  go_wp2_with fail
  refine (markInt64S_big g4 Lo.length _ (101 + ((Lb.length * 12 : Nat) : Int)) _ _ (by omega) (by omega) hyo (RowN.of_held Hg4) (by rw [roomy_length]; exact Nat.mul_le_mul_right _ (by omega))).mono ?_
  rintro e w14 ⟨rfl, hmk⟩
  replace O4 := O4.wrote hmk.wrote (fun e => by have := n4 _ e; omega)
  replace P4 := P4.wrote hmk.wrote (fun e => by have := m4 _ e; omega)
  replace O7 := O7.wrote hmk.wrote (fun e => by have := n7 _ e; omega)
  replace P7 := P7.wrote hmk.wrote (fun e => by have := m7 _ e; omega)
  replace h0 := hmk.wrote.below h0 (by omega) h0.size
  clear Hg4 hmk
  go_wp2_with fail
  refine (eqBook_same _ _ (ifL (mxC Lb Lo) (splL Lb Lo true Lo.length)) _ (O7.sl (by decide)) (O4.sl (by decide))).mono ?_
  rintro e w15 ⟨rfl, hb⟩
  replace O4 := O4.below hb
  replace P4 := P4.below hb
  replace O7 := O7.below hb
  replace P7 := P7.below hb
  replace h0 := grown_below h0 hb h0.size
  clear hb
  go_wp2_with fail
  refine (eqBook_same _ _ (ifL (mxC Lb Lo) (splL Lb Lo false Lo.length)) _ (P7.sl (by decide)) (P4.sl (by decide))).mono ?_
  rintro e w16 ⟨rfl, hb⟩
  replace O4 := O4.below hb
  replace P4 := P4.below hb
  replace O7 := O7.below hb
  replace P7 := P7.below hb
  replace h0 := grown_below h0 hb h0.size
  clear hb
  go_wp2_with fail
  refine (markBook_own _ (ifL (mxC Lb Lo) (splL Lb Lo true Lo.length)) _ 101 _ (by omega) (by omega) (by omega) O7).mono ?_
  rintro e w17 ⟨rfl, hgr, K7⟩
  replace O4 := O4.kept hgr (own_apart (B := w5.heap.size) (fun k hk => Nat.lt_of_lt_of_le (n4 k hk) (by omega)) n7)
  replace P4 := P4.kept hgr (own_apart (B := w5.heap.size) (fun k hk => Nat.lt_of_lt_of_le (m4 k hk) (by omega)) n7)
  replace P7 := P7.kept hgr apb
  replace h0 := h0.grown hgr h0.size (fun k hk => Nat.le_trans zz (n7 k hk))
  clear hgr O7
  generalize hq : (ifL (mxC Lb Lo) (splL Lb Lo true Lo.length)).length = q at *
  go_wp2_with fail
  refine (markBook_own _ (ifL (mxC Lb Lo) (splL Lb Lo false Lo.length)) _ (101 + ((q * 12 : Nat) : Int)) _ (by omega) (by omega) (by omega) P7).mono ?_
  rintro e w18 ⟨rfl, hgr, J7⟩
  replace O4 := O4.kept hgr (own_apart (B := w5.heap.size) (fun k hk => Nat.lt_of_lt_of_le (n4 k hk) (by omega)) m7)
  replace P4 := P4.kept hgr (own_apart (B := w5.heap.size) (fun k hk => Nat.lt_of_lt_of_le (m4 k hk) (by omega)) m7)
  replace K7 := K7.kept hgr apa
  replace h0 := h0.grown hgr h0.size (fun k hk => Nat.le_trans zz (m7 k hk))
  clear hgr P7
  generalize hr : (ifL (mxC Lb Lo) (splL Lb Lo false Lo.length)).length = r at *
  go_wp2_with fail
  refine (heldBook_own _ q 101 _ (by omega) (by omega) (by omega) K7).mono ?_
  rintro e w' ⟨rfl, rfl⟩
  go_wp2_with fail
  refine (heldBook_own _ r (101 + ((q * 12 : Nat) : Int)) _ (by omega) (by omega) (by omega) J7).mono ?_
  rintro e w' ⟨rfl, rfl⟩
  go_wp2_with fail
  refine (toBook_sl _ Lb true _ hyb ((sb.below h0).mono h0.size)).mono ?_
  rintro e w19 ⟨u7, rfl, Su7, hb⟩
  replace O4 := O4.below hb
  replace P4 := P4.below hb
  replace K7 := K7.below hb
  replace J7 := J7.below hb
  replace h0 := grown_below h0 hb h0.size
  clear hb
  go_wp2_with fail
  refine (toInt64S_sl _ Lo true _ hyo ((so.below h0).mono h0.size)).mono ?_
  rintro e w20 ⟨u8, rfl, Su8, hb⟩
  replace O4 := O4.below hb
  replace P4 := P4.below hb
  replace K7 := K7.below hb
  replace J7 := J7.below hb
  replace Su7 := Su7.later hb
  replace h0 := grown_below h0 hb h0.size
  clear hb
  go_wp2_with fail
  refine (implMixedOf_any _ _ Lb Lo _ hLb Su7 Su8).mono ?_
  rintro e w21 ⟨v12, y12, rfl, O12, P12, _, hb⟩
  replace O4 := O4.below hb
  replace P4 := P4.below hb
  replace K7 := K7.below hb
  replace J7 := J7.below hb
  replace Su7 := Su7.later hb
  replace Su8 := Su8.later hb
  replace h0 := grown_below h0 hb h0.size
  clear hb
  go_wp2_with fail
  refine (eqBook_same _ _ (ifL (mxC Lb Lo) (splL Lb Lo true Lo.length)) _ (O12.sl (by decide)) (O4.sl (by decide))).mono ?_
  rintro e w22 ⟨rfl, hb⟩
  replace O4 := O4.below hb
  replace P4 := P4.below hb
  replace K7 := K7.below hb
  replace J7 := J7.below hb
  replace Su7 := Su7.later hb
  replace Su8 := Su8.later hb
  replace O12 := O12.below hb
  replace P12 := P12.below hb
  replace h0 := grown_below h0 hb h0.size
  clear hb
  go_wp2_with fail
  refine (eqBook_same _ _ (ifL (mxC Lb Lo) (splL Lb Lo false Lo.length)) _ (P12.sl (by decide)) (P4.sl (by decide))).mono ?_
  rintro e w23 ⟨rfl, hb⟩
  replace O4 := O4.below hb
  replace P4 := P4.below hb
  replace K7 := K7.below hb
  replace J7 := J7.below hb
  replace Su7 := Su7.later hb
  replace Su8 := Su8.later hb
  replace O12 := O12.below hb
  replace P12 := P12.below hb
  replace h0 := grown_below h0 hb h0.size
  clear hb
  go_wp2_with fail
  refine (heldBook_own _ q 101 _ (by omega) (by omega) (by omega) K7).mono ?_
  rintro e w' ⟨rfl, rfl⟩
  go_wp2_with fail
  refine (heldBook_own _ r (101 + ((q * 12 : Nat) : Int)) _ (by omega) (by omega) (by omega) J7).mono ?_
  rintro e w' ⟨rfl, rfl⟩
  go_wp2
  go_ret
  exact ⟨rfl, h0⟩
end Go.Proofs.Ytajlkleoincoeaa.wFnExactMixedOf
