/- The walk of the law FnExactJoinTracks: it returns true and writes nothing that was there. -/
import Derived.Test.YtennmnkjdchbhabDoorRows
import Derived.Test.YtennmnkjdchbhabDoorLBook
import Derived.Test.YtennmnkjdchbhabDoorLI64
import Derived.Test.YtennmnkjdchbhabDoorLKey
import Derived.Test.YtennmnkjdchbhabDoorMKey
import Derived.Test.YtennmnkjdchbhabDoorSJoinT
namespace Go.Proofs.YtennmnkjdchbhabDoor.wFnExactJoinTracks
set_option maxRecDepth 100000
open Go.RowKit
set_option linter.unusedVariables false
set_option linter.unusedSimpArgs false
set_option maxHeartbeats 4000000 in
theorem walk (va : Value) (La : List (Int × Int × Int)) (vb : Value) (Lb : List (Int × Int × Int)) (hLa : ltK La) (hLb : ltK Lb) (w : World) (sa : SlAt eKy w w.heap.size va La) (sb : SlAt eKy w w.heap.size vb Lb) (sa : Nat → Addr) (hs : Sent w sa) :
    Calls Tryd.prog 4 #[va, vb] w fun e w' => e = .returned (.bool true) ∧ Below w.heap.size w w' := by
  obtain ⟨Aa, ca, hea⟩ := sa.form
  subst hea
  have hma := sa.len
  obtain ⟨Ab, cb, heb⟩ := sb.form
  subst heb
  have hmb := sb.len
  have h0 := Below.refl w.heap.size w
  by_cases hza : La.length ≤ 1000000
  case neg =>
    go_enter Tryd.func4, Tryd.ntmps4
    go_wp2_with fail
    refine (szTrack_from Aa La.length ca (1000000) _ hma (by omega) (by omega)).mono ?_
    rintro e w' ⟨rfl, rfl⟩
    rw [if_neg (by omega)]
    go_wp2
    go_ret
    exact ⟨rfl, h0⟩
  by_cases hzb : La.length + Lb.length ≤ 1000000
  case neg =>
    go_enter Tryd.func4, Tryd.ntmps4
    go_wp2_with fail
    refine (szTrack_from Aa La.length ca (1000000) _ hma (by omega) (by omega)).mono ?_
    rintro e w' ⟨rfl, rfl⟩
    rw [if_pos (by omega)]
    have qa : 0 ≤ 1000000 - (La.length : Int) := by omega
    go_wp2_with fail
    refine (szTrack_from Ab Lb.length cb (1000000 - (La.length : Int)) _ hmb (by omega) (by omega)).mono ?_
    rintro e w' ⟨rfl, rfl⟩
    rw [if_neg (by omega)]
    go_wp2
    go_ret
    exact ⟨rfl, h0⟩
  have hya : La.length ≤ 1000000 := by omega
  have hyb : Lb.length ≤ 1000000 := by omega
  go_enter Tryd.func4, Tryd.ntmps4
  go_wp2_with fail
  refine (szTrack_from Aa La.length ca (1000000) _ hma (by omega) (by omega)).mono ?_
  rintro e w' ⟨rfl, rfl⟩
  rw [if_pos (by omega)]
  have qa : 0 ≤ 1000000 - (La.length : Int) := by omega
  go_wp2_with fail
  refine (szTrack_from Ab Lb.length cb (1000000 - (La.length : Int)) _ hmb (by omega) (by omega)).mono ?_
  rintro e w' ⟨rfl, rfl⟩
  rw [if_pos (by omega)]
  have qb : 0 ≤ 1000000 - (La.length : Int) - (Lb.length : Int) := by omega
  go_wp2_with fail
  refine (toTrack_sl _ La false _ hya ((sa.below h0).mono h0.size)).mono ?_
  rintro e w1 ⟨u1, rfl, Su1, hb⟩
  replace h0 := grown_below h0 hb h0.size
  clear hb
  go_wp2_with fail
  refine (toTrack_sl _ Lb false _ hyb ((sb.below h0).mono h0.size)).mono ?_
  rintro e w2 ⟨u2, rfl, Su2, hb⟩
  replace Su1 := Su1.later hb
  replace h0 := grown_below h0 hb h0.size
  clear hb
  have hMl : (ifL (jtC La Lb) (jtT La Lb)).length ≤ 1000 := jt_if_len La Lb
  go_wp2_with fail
  refine (specJoinTracks_any _ _ La Lb _ hLa hLb Su1 Su2).mono ?_
  rintro e w3 ⟨v4, rfl, O4, hb⟩
  replace Su1 := Su1.later hb
  replace Su2 := Su2.later hb
  replace h0 := grown_below h0 hb h0.size
  clear hb
  have n4 : ∀ k, v4.ownBlock = some k → k < w3.heap.size := fun k hk => (O4.lt k hk).2
  go_wp2_with fail
  refine (toTrack_any _ La false _ hya ((sa.below h0).mono h0.size) (Or.inl rfl)).mono ?_
  rintro e w4 ⟨g3, rfl, hgg3, Hg3, hb⟩
  have zg3 : w.heap.size ≤ g3 := Nat.le_trans h0.size hgg3
  replace O4 := O4.below hb
  replace h0 := grown_below h0 hb h0.size
  clear hb
  have lg3 := Hg3.lt
  go_wp2_with fail
  refine (toTrack_any _ Lb false _ hyb ((sb.below h0).mono h0.size) (Or.inl rfl)).mono ?_
  rintro e w5 ⟨g4, rfl, hgg4, Hg4, hb⟩
  have zg4 : w.heap.size ≤ g4 := Nat.le_trans h0.size hgg4
  replace O4 := O4.below hb
  replace Hg3 := Hg3.below hb Hg3.lt
  replace h0 := grown_below h0 hb h0.size
  clear hb
  have lg4 := Hg4.lt
  have zz := h0.size
  go_wp2_with fail
  refine (implJoinTracks_any _ _ La Lb _ sa hLa hLb ((Hg3.sl (n := La.length) (c := La.length + roomN La.length) (by rw [roomy_length]; omega) (by omega) (by have := roomN_le La.length; unfold maxLen; omega)).roomy) ((Hg4.sl (n := Lb.length) (c := Lb.length + roomN Lb.length) (by rw [roomy_length]; omega) (by omega) (by have := roomN_le Lb.length; unfold maxLen; omega)).roomy) (hs.below h0)).mono ?_
  rintro e w6 ⟨v7, rfl, O7, hb⟩
  replace O4 := O4.below hb
  replace Hg3 := Hg3.below hb Hg3.lt
  replace Hg4 := Hg4.below hb Hg4.lt
  replace h0 := grown_below h0 hb h0.size
  clear hb
  have n7 : ∀ k, v7.ownBlock = some k → w5.heap.size ≤ k := fun k hk => (O7.lt k hk).1
  go_wp2_with fail
  refine (eqTrack_same _ _ (ifL (jtC La Lb) (jtT La Lb)) _ (O7.sl (by decide)) (O4.sl (by decide))).mono ?_
  rintro e w7 ⟨rfl, hb⟩
  replace O4 := O4.below hb
  replace Hg3 := Hg3.below hb Hg3.lt
  replace Hg4 := Hg4.below hb Hg4.lt
  replace O7 := O7.below hb
  replace h0 := grown_below h0 hb h0.size
  clear hb
  go_wp2_with fail
  refine (toTrack_any _ La false _ hya ((sa.below h0).mono h0.size) (Or.inl rfl)).mono ?_
  rintro e w8 ⟨g5, rfl, hgg5, Hg5, hb⟩
  have zg5 : w.heap.size ≤ g5 := Nat.le_trans h0.size hgg5
  replace O4 := O4.below hb
  replace Hg3 := Hg3.below hb Hg3.lt
  replace Hg4 := Hg4.below hb Hg4.lt
  replace O7 := O7.below hb
  replace h0 := grown_below h0 hb h0.size
  clear hb
  go_wp2_with fail
  refine (intactTrack_any g3 g5 La _ hya Hg3 Hg5).mono ?_
  rintro e w9 ⟨rfl, hb⟩
  replace O4 := O4.below hb
  replace Hg3 := Hg3.below hb Hg3.lt
  replace Hg4 := Hg4.below hb Hg4.lt
  replace O7 := O7.below hb
  replace Hg5 := Hg5.below hb Hg5.lt
  replace h0 := grown_below h0 hb h0.size
  clear hb
  go_wp2_with fail
  refine (toTrack_any _ Lb false _ hyb ((sb.below h0).mono h0.size) (Or.inl rfl)).mono ?_
  rintro e w10 ⟨g6, rfl, hgg6, Hg6, hb⟩
  have zg6 : w.heap.size ≤ g6 := Nat.le_trans h0.size hgg6
  replace O4 := O4.below hb
  replace Hg3 := Hg3.below hb Hg3.lt
  replace Hg4 := Hg4.below hb Hg4.lt
  replace O7 := O7.below hb
  replace h0 := grown_below h0 hb h0.size
  clear hb
  go_wp2_with fail
  refine (intactTrack_any g4 g6 Lb _ hyb Hg4 Hg6).mono ?_
  rintro e w11 ⟨rfl, hb⟩
  replace O4 := O4.below hb
  replace Hg3 := Hg3.below hb Hg3.lt
  replace Hg4 := Hg4.below hb Hg4.lt
  replace O7 := O7.below hb
  replace Hg6 := Hg6.below hb Hg6.lt
  replace h0 := grown_below h0 hb h0.size
  clear hb
  go_wp2_with fail
  refine (markTrack_any g3 La.length _ (101) _ _ (by omega) (by omega) hya (RowN.of_held Hg3) (by rw [roomy_length]; exact Nat.mul_le_mul_right _ (by omega))).mono ?_
  rintro e w12 ⟨rfl, hmk⟩
  have n4g3 : v4.ownBlock ≠ some g3 := fun e => by have := n4 _ e; omega
  have n7g3 : v7.ownBlock ≠ some g3 := fun e => by have := n7 _ e; omega
  replace O4 := O4.wrote hmk.wrote n4g3
  replace O7 := O7.wrote hmk.wrote n7g3
  replace Hg4 := Hg4.wrote hmk.wrote (by omega)
  replace h0 := hmk.wrote.below h0 (by omega) h0.size
  clear Hg3 hmk
  go_wp2_with fail
  refine (markTrack_any g4 Lb.length _ (101 + ((La.length * 3 : Nat) : Int)) _ _ (by omega) (by omega) hyb (RowN.of_held Hg4) (by rw [roomy_length]; exact Nat.mul_le_mul_right _ (by omega))).mono ?_
  rintro e w13 ⟨rfl, hmk⟩
  have n4g4 : v4.ownBlock ≠ some g4 := fun e => by have := n4 _ e; omega
  have n7g4 : v7.ownBlock ≠ some g4 := fun e => by have := n7 _ e; omega
  replace O4 := O4.wrote hmk.wrote n4g4
  replace O7 := O7.wrote hmk.wrote n7g4
  replace h0 := hmk.wrote.below h0 (by omega) h0.size
  clear Hg4 hmk
  go_wp2_with fail
  refine (eqTrack_same _ _ (ifL (jtC La Lb) (jtT La Lb)) _ (O7.sl (by decide)) (O4.sl (by decide))).mono ?_
  rintro e w14 ⟨rfl, hb⟩
  replace O4 := O4.below hb
  replace O7 := O7.below hb
  replace h0 := grown_below h0 hb h0.size
  clear hb
  go_wp2_with fail
  refine (markTrack_own _ (ifL (jtC La Lb) (jtT La Lb)) _ 101 _ (by omega) (by omega) (by omega) O7).mono ?_
  rintro e w15 ⟨rfl, hgr, K7⟩
  replace O4 := O4.kept hgr (own_apart (B := w5.heap.size) (fun k hk => Nat.lt_of_lt_of_le (n4 k hk) (by omega)) n7)
  replace h0 := h0.grown hgr h0.size (fun k hk => Nat.le_trans zz (n7 k hk))
  clear hgr O7
  generalize hq : (ifL (jtC La Lb) (jtT La Lb)).length = q at *
  go_wp2_with fail
  refine (heldTrack_own _ q 101 _ (by omega) (by omega) (by omega) K7).mono ?_
  rintro e w' ⟨rfl, rfl⟩
  go_wp2_with fail
  refine (toTrack_sl _ La true _ hya ((sa.below h0).mono h0.size)).mono ?_
  rintro e w16 ⟨u7, rfl, Su7, hb⟩
  replace O4 := O4.below hb
  replace K7 := K7.below hb
  replace h0 := grown_below h0 hb h0.size
  clear hb
  go_wp2_with fail
  refine (toTrack_sl _ Lb true _ hyb ((sb.below h0).mono h0.size)).mono ?_
  rintro e w17 ⟨u8, rfl, Su8, hb⟩
  replace O4 := O4.below hb
  replace K7 := K7.below hb
  replace Su7 := Su7.later hb
  replace h0 := grown_below h0 hb h0.size
  clear hb
  go_wp2_with fail
  refine (implJoinTracks_any _ _ La Lb _ sa hLa hLb Su7 Su8 (hs.below h0)).mono ?_
  rintro e w18 ⟨v12, rfl, O12, hb⟩
  replace O4 := O4.below hb
  replace K7 := K7.below hb
  replace Su7 := Su7.later hb
  replace Su8 := Su8.later hb
  replace h0 := grown_below h0 hb h0.size
  clear hb
  go_wp2_with fail
  refine (eqTrack_same _ _ (ifL (jtC La Lb) (jtT La Lb)) _ (O12.sl (by decide)) (O4.sl (by decide))).mono ?_
  rintro e w19 ⟨rfl, hb⟩
  replace O4 := O4.below hb
  replace K7 := K7.below hb
  replace Su7 := Su7.later hb
  replace Su8 := Su8.later hb
  replace O12 := O12.below hb
  replace h0 := grown_below h0 hb h0.size
  clear hb
  go_wp2_with fail
  refine (heldTrack_own _ q 101 _ (by omega) (by omega) (by omega) K7).mono ?_
  rintro e w' ⟨rfl, rfl⟩
  go_wp2
  go_ret
  exact ⟨rfl, h0⟩
end Go.Proofs.YtennmnkjdchbhabDoor.wFnExactJoinTracks
