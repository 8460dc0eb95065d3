/- The walk of the law FnExactJoinTracks: it returns true and writes nothing that was there. -/
import Derived.Test.YtkcomhbmhgnhhaaDoorRows
import Derived.Test.YtkcomhbmhgnhhaaDoorLBook
import Derived.Test.YtkcomhbmhgnhhaaDoorLI64
import Derived.Test.YtkcomhbmhgnhhaaDoorLKey
import Derived.Test.YtkcomhbmhgnhhaaDoorMKey
import Derived.Test.YtkcomhbmhgnhhaaDoorSJoinT
namespace Go.Proofs.YtkcomhbmhgnhhaaDoor.wFnExactJoinTracks
set_option maxRecDepth 100000
open Go.RowKit
set_option linter.unusedVariables false
set_option linter.unusedSimpArgs false
set_option maxHeartbeats 4000000 in
theorem walk (vp : Value) (Lp : List (Int × Int × Int)) (vq : Value) (Lq : List (Int × Int × Int)) (hLp : ltK Lp) (hLq : ltK Lq) (w : World) (sp : SlAt eKy w w.heap.size vp Lp) (sq : SlAt eKy w w.heap.size vq Lq) (sa : Nat → Addr) (hs : Sent w sa) :
    Calls Tryd.prog 3 #[vp, vq] w fun e w' => e = .returned (.bool true) ∧ Below w.heap.size w w' := by
  obtain ⟨Ap, cp, hep⟩ := sp.form
  subst hep
  have hmp := sp.len
  obtain ⟨Aq, cq, heq⟩ := sq.form
  subst heq
  have hmq := sq.len
  have h0 := Below.refl w.heap.size w
  by_cases hzp : Lp.length ≤ 1000000
  case neg =>
    go_enter Tryd.func3, Tryd.ntmps3
    go_wp2_with fail
    refine (szTrack_from Ap Lp.length cp (1000000) _ hmp (by omega) (by omega)).mono ?_
    rintro e w' ⟨rfl, rfl⟩
    rw [if_neg (by omega)]
    go_wp2
    go_ret
    exact ⟨rfl, h0⟩
  by_cases hzq : Lp.length + Lq.length ≤ 1000000
  case neg =>
    go_enter Tryd.func3, Tryd.ntmps3
    go_wp2_with fail
    refine (szTrack_from Ap Lp.length cp (1000000) _ hmp (by omega) (by omega)).mono ?_
    rintro e w' ⟨rfl, rfl⟩
    rw [if_pos (by omega)]
    have qp : 0 ≤ 1000000 - (Lp.length : Int) := by omega
    go_wp2_with fail
    refine (szTrack_from Aq Lq.length cq (1000000 - (Lp.length : Int)) _ hmq (by omega) (by omega)).mono ?_
    rintro e w' ⟨rfl, rfl⟩
    rw [if_neg (by omega)]
    go_wp2
    go_ret
    exact ⟨rfl, h0⟩
  have hyp : Lp.length ≤ 1000000 := by omega
  have hyq : Lq.length ≤ 1000000 := by omega
  go_enter Tryd.func3, Tryd.ntmps3
  go_wp2_with fail
  refine (szTrack_from Ap Lp.length cp (1000000) _ hmp (by omega) (by omega)).mono ?_
  rintro e w' ⟨rfl, rfl⟩
  rw [if_pos (by omega)]
  have qp : 0 ≤ 1000000 - (Lp.length : Int) := by omega
  go_wp2_with fail
  refine (szTrack_from Aq Lq.length cq (1000000 - (Lp.length : Int)) _ hmq (by omega) (by omega)).mono ?_
  rintro e w' ⟨rfl, rfl⟩
  rw [if_pos (by omega)]
  have qq : 0 ≤ 1000000 - (Lp.length : Int) - (Lq.length : Int) := by omega
  go_wp2_with fail
  refine (toTrack_sl _ Lp false _ hyp ((sp.below h0).mono h0.size)).mono ?_
  rintro e w1 ⟨u1, rfl, Su1, hb⟩
  replace h0 := grown_below h0 hb h0.size
  clear hb
  go_wp2_with fail
  refine (toTrack_sl _ Lq false _ hyq ((sq.below h0).mono h0.size)).mono ?_
  rintro e w2 ⟨u2, rfl, Su2, hb⟩
  replace Su1 := Su1.later hb
  replace h0 := grown_below h0 hb h0.size
  clear hb
  have hMl : (ifL (jtC Lp Lq) (jtT Lp Lq)).length ≤ 1000 := jt_if_len Lp Lq
  go_wp2_with fail
  refine (specJoinTracks_any _ _ Lp Lq _ hLp hLq Su1 Su2).mono ?_
  rintro e w3 ⟨v4, rfl, O4, hb⟩
  replace Su1 := Su1.later hb
  replace Su2 := Su2.later hb
  replace h0 := grown_below h0 hb h0.size
  clear hb
  have n4 : ∀ k, v4.ownBlock = some k → k < w3.heap.size := fun k hk => (O4.lt k hk).2
  go_wp2_with fail
  refine (toTrack_any _ Lp false _ hyp ((sp.below h0).mono h0.size) (Or.inl rfl)).mono ?_
  rintro e w4 ⟨g3, rfl, hgg3, Hg3, hb⟩
  have zg3 : w.heap.size ≤ g3 := Nat.le_trans h0.size hgg3
  replace O4 := O4.below hb
  replace h0 := grown_below h0 hb h0.size
  clear hb
  have lg3 := Hg3.lt
  go_wp2_with fail
  refine (toTrack_any _ Lq false _ hyq ((sq.below h0).mono h0.size) (Or.inl rfl)).mono ?_
  rintro e w5 ⟨g4, rfl, hgg4, Hg4, hb⟩
  have zg4 : w.heap.size ≤ g4 := Nat.le_trans h0.size hgg4
  replace O4 := O4.below hb
  replace Hg3 := Hg3.below hb Hg3.lt
  replace h0 := grown_below h0 hb h0.size
  clear hb
  have lg4 := Hg4.lt
  have zz := h0.size
  go_wp2_with fail
  refine (implJoinTracks_any _ _ Lp Lq _ sa hLp hLq ((Hg3.sl (n := Lp.length) (c := Lp.length + roomN Lp.length) (by rw [roomy_length]; omega) (by omega) (by have := roomN_le Lp.length; unfold maxLen; omega)).roomy) ((Hg4.sl (n := Lq.length) (c := Lq.length + roomN Lq.length) (by rw [roomy_length]; omega) (by omega) (by have := roomN_le Lq.length; unfold maxLen; omega)).roomy) (hs.below h0)).mono ?_
  rintro e w6 ⟨v7, rfl, O7, hb⟩
  replace O4 := O4.below hb
  replace Hg3 := Hg3.below hb Hg3.lt
  replace Hg4 := Hg4.below hb Hg4.lt
  replace h0 := grown_below h0 hb h0.size
  clear hb
  have n7 : ∀ k, v7.ownBlock = some k → w5.heap.size ≤ k := fun k hk => (O7.lt k hk).1
  go_wp2_with fail
  refine (eqTrack_same _ _ (ifL (jtC Lp Lq) (jtT Lp Lq)) _ (O7.sl (by decide)) (O4.sl (by decide))).mono ?_
  rintro e w7 ⟨rfl, hb⟩
  replace O4 := O4.below hb
  replace Hg3 := Hg3.below hb Hg3.lt
  replace Hg4 := Hg4.below hb Hg4.lt
  replace O7 := O7.below hb
  replace h0 := grown_below h0 hb h0.size
  clear hb
  go_wp2_with fail
  refine (toTrack_any _ Lp false _ hyp ((sp.below h0).mono h0.size) (Or.inl rfl)).mono ?_
  rintro e w8 ⟨g5, rfl, hgg5, Hg5, hb⟩
  have zg5 : w.heap.size ≤ g5 := Nat.le_trans h0.size hgg5
  replace O4 := O4.below hb
  replace Hg3 := Hg3.below hb Hg3.lt
  replace Hg4 := Hg4.below hb Hg4.lt
  replace O7 := O7.below hb
  replace h0 := grown_below h0 hb h0.size
  clear hb
  go_wp2_with fail
  refine (intactTrack_any g3 g5 Lp _ hyp Hg3 Hg5).mono ?_
  rintro e w9 ⟨rfl, hb⟩
  replace O4 := O4.below hb
  replace Hg3 := Hg3.below hb Hg3.lt
  replace Hg4 := Hg4.below hb Hg4.lt
  replace O7 := O7.below hb
  replace Hg5 := Hg5.below hb Hg5.lt
  replace h0 := grown_below h0 hb h0.size
  clear hb
  go_wp2_with fail
  refine (toTrack_any _ Lq false _ hyq ((sq.below h0).mono h0.size) (Or.inl rfl)).mono ?_
  rintro e w10 ⟨g6, rfl, hgg6, Hg6, hb⟩
  have zg6 : w.heap.size ≤ g6 := Nat.le_trans h0.size hgg6
  replace O4 := O4.below hb
  replace Hg3 := Hg3.below hb Hg3.lt
  replace Hg4 := Hg4.below hb Hg4.lt
  replace O7 := O7.below hb
  replace h0 := grown_below h0 hb h0.size
  clear hb
  go_wp2_with fail
  refine (intactTrack_any g4 g6 Lq _ hyq Hg4 Hg6).mono ?_
  rintro e w11 ⟨rfl, hb⟩
  replace O4 := O4.below hb
  replace Hg3 := Hg3.below hb Hg3.lt
  replace Hg4 := Hg4.below hb Hg4.lt
  replace O7 := O7.below hb
  replace Hg6 := Hg6.below hb Hg6.lt
  replace h0 := grown_below h0 hb h0.size
  clear hb
  go_wp2_with fail
  refine (markTrack_any g3 Lp.length _ (101) _ _ (by omega) (by omega) hyp (RowN.of_held Hg3) (by rw [roomy_length]; exact Nat.mul_le_mul_right _ (by omega))).mono ?_
  rintro e w12 ⟨rfl, hmk⟩
  have n4g3 : v4.ownBlock ≠ some g3 := fun e => by have := n4 _ e; omega
  have n7g3 : v7.ownBlock ≠ some g3 := fun e => by have := n7 _ e; omega
  replace O4 := O4.wrote hmk.wrote n4g3
  replace O7 := O7.wrote hmk.wrote n7g3
  replace Hg4 := Hg4.wrote hmk.wrote (by omega)
  replace h0 := hmk.wrote.below h0 (by omega) h0.size
  clear Hg3 hmk
  go_wp2_with fail
  refine (markTrack_any g4 Lq.length _ (101 + ((Lp.length * 3 : Nat) : Int)) _ _ (by omega) (by omega) hyq (RowN.of_held Hg4) (by rw [roomy_length]; exact Nat.mul_le_mul_right _ (by omega))).mono ?_
  rintro e w13 ⟨rfl, hmk⟩
  have n4g4 : v4.ownBlock ≠ some g4 := fun e => by have := n4 _ e; omega
  have n7g4 : v7.ownBlock ≠ some g4 := fun e => by have := n7 _ e; omega
  replace O4 := O4.wrote hmk.wrote n4g4
  replace O7 := O7.wrote hmk.wrote n7g4
  replace h0 := hmk.wrote.below h0 (by omega) h0.size
  clear Hg4 hmk
  go_wp2_with fail
  refine (eqTrack_same _ _ (ifL (jtC Lp Lq) (jtT Lp Lq)) _ (O7.sl (by decide)) (O4.sl (by decide))).mono ?_
  rintro e w14 ⟨rfl, hb⟩
  replace O4 := O4.below hb
  replace O7 := O7.below hb
  replace h0 := grown_below h0 hb h0.size
  clear hb
  go_wp2_with fail
  refine (markTrack_own _ (ifL (jtC Lp Lq) (jtT Lp Lq)) _ 101 _ (by omega) (by omega) (by omega) O7).mono ?_
  rintro e w15 ⟨rfl, hgr, K7⟩
  replace O4 := O4.kept hgr (own_apart (B := w5.heap.size) (fun k hk => Nat.lt_of_lt_of_le (n4 k hk) (by omega)) n7)
  replace h0 := h0.grown hgr h0.size (fun k hk => Nat.le_trans zz (n7 k hk))
  clear hgr O7
  generalize hq : (ifL (jtC Lp Lq) (jtT Lp Lq)).length = q at *
  go_wp2_with fail
  refine (heldTrack_own _ q 101 _ (by omega) (by omega) (by omega) K7).mono ?_
  rintro e w' ⟨rfl, rfl⟩
  go_wp2_with fail
  refine (toTrack_sl _ Lp true _ hyp ((sp.below h0).mono h0.size)).mono ?_
  rintro e w16 ⟨u7, rfl, Su7, hb⟩
  replace O4 := O4.below hb
  replace K7 := K7.below hb
  replace h0 := grown_below h0 hb h0.size
  clear hb
  go_wp2_with fail
  refine (toTrack_sl _ Lq true _ hyq ((sq.below h0).mono h0.size)).mono ?_
  rintro e w17 ⟨u8, rfl, Su8, hb⟩
  replace O4 := O4.below hb
  replace K7 := K7.below hb
  replace Su7 := Su7.later hb
  replace h0 := grown_below h0 hb h0.size
  clear hb
  go_wp2_with fail
  refine (implJoinTracks_any _ _ Lp Lq _ sa hLp hLq Su7 Su8 (hs.below h0)).mono ?_
  rintro e w18 ⟨v12, rfl, O12, hb⟩
  replace O4 := O4.below hb
  replace K7 := K7.below hb
  replace Su7 := Su7.later hb
  replace Su8 := Su8.later hb
  replace h0 := grown_below h0 hb h0.size
  clear hb
  go_wp2_with fail
  refine (eqTrack_same _ _ (ifL (jtC Lp Lq) (jtT Lp Lq)) _ (O12.sl (by decide)) (O4.sl (by decide))).mono ?_
  rintro e w19 ⟨rfl, hb⟩
  replace O4 := O4.below hb
  replace K7 := K7.below hb
  replace Su7 := Su7.later hb
  replace Su8 := Su8.later hb
  replace O12 := O12.below hb
  replace h0 := grown_below h0 hb h0.size
  clear hb
  go_wp2_with fail
  refine (heldTrack_own _ q 101 _ (by omega) (by omega) (by omega) K7).mono ?_
  rintro e w' ⟨rfl, rfl⟩
  go_wp2
  go_ret
  exact ⟨rfl, h0⟩
end Go.Proofs.YtkcomhbmhgnhhaaDoor.wFnExactJoinTracks
