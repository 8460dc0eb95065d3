/- The walk of the law FnExactSameScene: it returns true and writes nothing that was there. -/
import Derived.Test.YtpmlepgnokbpaaaRows
import Derived.Test.YtpmlepgnokbpaaaLBook
import Derived.Test.YtpmlepgnokbpaaaLI64
import Derived.Test.YtpmlepgnokbpaaaLScene
import Derived.Test.YtpmlepgnokbpaaaSame
namespace Go.Proofs.Ytpmlepgnokbpaaa.wFnExactSameScene
set_option maxRecDepth 100000
open Go.RowKit
set_option linter.unusedVariables false
set_option linter.unusedSimpArgs false
set_option maxHeartbeats 4000000 in
theorem walk (va : Value) (La : List Ly) (vb : Value) (Lb : List Ly) (hLa : ltLy La) (hLb : ltLy Lb) (w : World) (sa : SlAt eLy w w.heap.size va La) (sb : SlAt eLy w w.heap.size vb Lb) :
    Calls Try.prog 5 #[va, vb] w fun e w' => e = .returned (.bool true) ∧ Below w.heap.size w w' := by
  obtain ⟨Aa, ca, hea⟩ := sa.form
  subst hea
  have hma := sa.len
  obtain ⟨Ab, cb, heb⟩ := sb.form
  subst heb
  have hmb := sb.len
  have h0 := Below.refl w.heap.size w
  by_cases hza : La.length ≤ 1000000
  case neg =>
    go_enter Try.func5, Try.ntmps5
    go_wp2_with fail
    refine (szScene_from Aa La.length ca (1000000) _ hma (by omega) (by omega)).mono ?_
    rintro e w' ⟨rfl, rfl⟩
    rw [if_neg (by omega)]
    go_wp2
    go_ret
    exact ⟨rfl, h0⟩
  by_cases hzb : La.length + Lb.length ≤ 1000000
  case neg =>
    go_enter Try.func5, Try.ntmps5
    go_wp2_with fail
    refine (szScene_from Aa La.length ca (1000000) _ hma (by omega) (by omega)).mono ?_
    rintro e w' ⟨rfl, rfl⟩
    rw [if_pos (by omega)]
    have qa : 0 ≤ 1000000 - (La.length : Int) := by omega
    go_wp2_with fail
    refine (szScene_from Ab Lb.length cb (1000000 - (La.length : Int)) _ hmb (by omega) (by omega)).mono ?_
    rintro e w' ⟨rfl, rfl⟩
    rw [if_neg (by omega)]
    go_wp2
    go_ret
    exact ⟨rfl, h0⟩
  have hya : La.length ≤ 1000000 := by omega
  have hyb : Lb.length ≤ 1000000 := by omega
  go_enter Try.func5, Try.ntmps5
  go_wp2_with fail
  refine (szScene_from Aa La.length ca (1000000) _ hma (by omega) (by omega)).mono ?_
  rintro e w' ⟨rfl, rfl⟩
  rw [if_pos (by omega)]
  have qa : 0 ≤ 1000000 - (La.length : Int) := by omega
  go_wp2_with fail
  refine (szScene_from Ab Lb.length cb (1000000 - (La.length : Int)) _ hmb (by omega) (by omega)).mono ?_
  rintro e w' ⟨rfl, rfl⟩
  rw [if_pos (by omega)]
  have qb : 0 ≤ 1000000 - (La.length : Int) - (Lb.length : Int) := by omega
  go_wp2_with fail
  refine (toScene_sl _ La false _ hya ((sa.below h0).mono h0.size)).mono ?_
  rintro e w1 ⟨u1, rfl, Su1, hb⟩
  replace h0 := grown_below h0 hb h0.size
  clear hb
  go_wp2_with fail
  refine (toScene_sl _ Lb false _ hyb ((sb.below h0).mono h0.size)).mono ?_
  rintro e w2 ⟨u2, rfl, Su2, hb⟩
  replace Su1 := Su1.later hb
  replace h0 := grown_below h0 hb h0.size
  clear hb
  go_wp2_with fail
  refine (specSameScene_any _ _ La Lb _ Su1 Su2).mono ?_
  rintro e w3 ⟨rfl, hb⟩
  replace Su1 := Su1.later hb
  replace Su2 := Su2.later hb
  replace h0 := grown_below h0 hb h0.size
  clear hb
  go_wp2_with fail
  refine (toScene_any _ La false _ hya ((sa.below h0).mono h0.size) (Or.inl rfl)).mono ?_
  rintro e w4 ⟨g3, rfl, hgg3, Hg3, hb⟩
  have zg3 : w.heap.size ≤ g3 := Nat.le_trans h0.size hgg3
  replace Su1 := Su1.later hb
  replace Su2 := Su2.later hb
  replace h0 := grown_below h0 hb h0.size
  clear hb
  go_wp2_with fail
  refine (toScene_any _ Lb false _ hyb ((sb.below h0).mono h0.size) (Or.inl rfl)).mono ?_
  rintro e w5 ⟨g4, rfl, hgg4, Hg4, hb⟩
  have zg4 : w.heap.size ≤ g4 := Nat.le_trans h0.size hgg4
  replace Su1 := Su1.later hb
  replace Su2 := Su2.later hb
  replace Hg3 := Hg3.below hb Hg3.lt
  replace h0 := grown_below h0 hb h0.size
  clear hb
  go_wp2_with fail
  refine (implSameScene_any _ _ La Lb _ ((Hg3.sl (n := La.length) (c := La.length + roomN La.length) (by rw [roomy_length]; omega) (by omega) (by have := roomN_le La.length; unfold maxLen; omega)).roomy) ((Hg4.sl (n := Lb.length) (c := Lb.length + roomN Lb.length) (by rw [roomy_length]; omega) (by omega) (by have := roomN_le Lb.length; unfold maxLen; omega)).roomy)).mono ?_
  rintro e w6 ⟨rfl, hb⟩
  replace Su1 := Su1.later hb
  replace Su2 := Su2.later hb
  replace Hg3 := Hg3.below hb Hg3.lt
  replace Hg4 := Hg4.below hb Hg4.lt
  replace h0 := grown_below h0 hb h0.size
  clear hb
  go_wp2_with fail
  refine (toScene_any _ La false _ hya ((sa.below h0).mono h0.size) (Or.inl rfl)).mono ?_
  rintro e w7 ⟨g5, rfl, hgg5, Hg5, hb⟩
  have zg5 : w.heap.size ≤ g5 := Nat.le_trans h0.size hgg5
  replace Su1 := Su1.later hb
  replace Su2 := Su2.later hb
  replace Hg3 := Hg3.below hb Hg3.lt
  replace Hg4 := Hg4.below hb Hg4.lt
  replace h0 := grown_below h0 hb h0.size
  clear hb
  go_wp2_with fail
  refine (intactScene_any g3 g5 La _ hya Hg3 Hg5).mono ?_
  rintro e w8 ⟨rfl, hb⟩
  replace Su1 := Su1.later hb
  replace Su2 := Su2.later hb
  replace Hg3 := Hg3.below hb Hg3.lt
  replace Hg4 := Hg4.below hb Hg4.lt
  replace Hg5 := Hg5.below hb Hg5.lt
  replace h0 := grown_below h0 hb h0.size
  clear hb
  go_wp2_with fail
  refine (toScene_any _ Lb false _ hyb ((sb.below h0).mono h0.size) (Or.inl rfl)).mono ?_
  rintro e w9 ⟨g6, rfl, hgg6, Hg6, hb⟩
  have zg6 : w.heap.size ≤ g6 := Nat.le_trans h0.size hgg6
  replace Su1 := Su1.later hb
  replace Su2 := Su2.later hb
  replace Hg3 := Hg3.below hb Hg3.lt
  replace Hg4 := Hg4.below hb Hg4.lt
  replace Hg5 := Hg5.below hb Hg5.lt
  replace h0 := grown_below h0 hb h0.size
  clear hb
  go_wp2_with fail
  refine (intactScene_any g4 g6 Lb _ hyb Hg4 Hg6).mono ?_
  rintro e w10 ⟨rfl, hb⟩
  replace Su1 := Su1.later hb
  replace Su2 := Su2.later hb
  replace Hg3 := Hg3.below hb Hg3.lt
  replace Hg4 := Hg4.below hb Hg4.lt
  replace Hg5 := Hg5.below hb Hg5.lt
  replace Hg6 := Hg6.below hb Hg6.lt
  replace h0 := grown_below h0 hb h0.size
  clear hb
  go_wp2_with fail
  refine (toScene_sl _ La true _ hya ((sa.below h0).mono h0.size)).mono ?_
  rintro e w11 ⟨u7, rfl, Su7, hb⟩
  replace h0 := grown_below h0 hb h0.size
  clear hb
  go_wp2_with fail
  refine (toScene_sl _ Lb true _ hyb ((sb.below h0).mono h0.size)).mono ?_
  rintro e w12 ⟨u8, rfl, Su8, hb⟩
  replace Su7 := Su7.later hb
  replace h0 := grown_below h0 hb h0.size
  clear hb
  go_wp2_with fail
  refine (implSameScene_any _ _ La Lb _ Su7 Su8).mono ?_
  rintro e w13 ⟨rfl, hb⟩
  replace Su7 := Su7.later hb
  replace Su8 := Su8.later hb
  replace h0 := grown_below h0 hb h0.size
  clear hb
  go_wp2
  go_ret
  exact ⟨rfl, h0⟩
end Go.Proofs.Ytpmlepgnokbpaaa.wFnExactSameScene
