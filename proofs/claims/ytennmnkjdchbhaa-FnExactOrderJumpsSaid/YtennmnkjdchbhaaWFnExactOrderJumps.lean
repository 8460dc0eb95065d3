/- The walk of the law FnExactOrderJumps: it returns true and writes nothing that was there. -/
import Derived.Test.YtennmnkjdchbhaaRows
import Derived.Test.YtennmnkjdchbhaaLBook
import Derived.Test.YtennmnkjdchbhaaLI64
import Derived.Test.YtennmnkjdchbhaaInts
import Derived.Test.YtennmnkjdchbhaaIOrd
namespace Go.Proofs.Ytennmnkjdchbhaa.wFnExactOrderJumps
set_option maxRecDepth 100000
open Go.RowKit
set_option linter.unusedVariables false
set_option linter.unusedSimpArgs false
set_option maxHeartbeats 4000000 in
theorem walk (vb : Value) (Lb : List (Nat → Nat)) (vo : Value) (Lo : List Int) (hLb : ltL Lb) (hLo : ltI Lo) (rb : Lb.length ≤ 140737488351232) (ro : Lo.length ≤ 140737488351232) (w : World) (sb : SlAt eFr w w.heap.size vb Lb) (so : SlAt (eI .i64) w w.heap.size vo Lo) :
    Calls Try.prog 6 #[vb, vo] w fun e w' => e = .returned (.bool true) ∧ Below w.heap.size w w' := by
  obtain ⟨Ab, cb, heb⟩ := sb.form
  subst heb
  have hmb := sb.len
  obtain ⟨Ao, co, heo⟩ := so.form
  subst heo
  have hmo := so.len
  have h0 := Below.refl w.heap.size w
  by_cases hzb : Lo.length + Lb.length ≤ 1000000
  case neg =>
    have kw0 : IntKind.i64.wrap (1000000 - (Lo.length : Int)) = 1000000 - (Lo.length : Int) := IntWalk.i64_in _ (by omega)
    go_enter Try.func6, Try.ntmps6
    go_wp2_with fail
    refine (szBook_reach Ab Lb.length cb (1000000 - (Lo.length : Int)) _ rb (by omega) (by omega)).mono ?_
    rintro e w' ⟨rfl, rfl⟩
    rw [if_neg (by omega)]
    go_wp2
    go_ret
    exact ⟨rfl, h0⟩
  have hyb : Lb.length ≤ 1000000 := by omega
  have hyo : Lo.length ≤ 1000000 := by omega
  have kw0 : IntKind.i64.wrap (1000000 - (Lo.length : Int)) = 1000000 - (Lo.length : Int) := IntWalk.i64_in _ (by omega)
  go_enter Try.func6, Try.ntmps6
  go_wp2_with fail
  refine (szBook_reach Ab Lb.length cb (1000000 - (Lo.length : Int)) _ rb (by omega) (by omega)).mono ?_
  rintro e w' ⟨rfl, rfl⟩
  rw [if_pos (by omega)]
  have qb : 0 ≤ 1000000 - (Lo.length : Int) - (Lb.length : Int) := by omega
  clear kw0
  go_wp2_with fail
  refine (toBook_sl _ Lb false _ hyb ((sb.below h0).mono h0.size)).mono ?_
  rintro e w1 ⟨u1, rfl, Su1, hb⟩
  replace h0 := grown_below h0 hb h0.size
  clear hb
  go_wp2_with fail
  refine (toInt64S_sl _ Lo false _ hyo ((so.below h0).mono h0.size)).mono ?_
  rintro e w2 ⟨u2, rfl, Su2, hb⟩
  replace Su1 := Su1.later hb
  replace h0 := grown_below h0 hb h0.size
  clear hb
  go_wp2_with fail
  refine (specOrderJumps_any _ _ Lb Lo _ hLb Su1 Su2).mono ?_
  rintro e w3 ⟨rfl, hb⟩
  replace Su1 := Su1.later hb
  replace Su2 := Su2.later hb
  replace h0 := grown_below h0 hb h0.size
  clear hb
  go_wp2_with fail
  refine (toBook_any _ Lb false _ hyb ((sb.below h0).mono h0.size) (Or.inl rfl)).mono ?_
  rintro e w4 ⟨g3, rfl, hgg3, Hg3, hb⟩
  have zg3 : w.heap.size ≤ g3 := Nat.le_trans h0.size hgg3
  replace Su1 := Su1.later hb
  replace Su2 := Su2.later hb
  replace h0 := grown_below h0 hb h0.size
  clear hb
  go_wp2_with fail
  refine (toInt64S_any _ Lo false _ hyo ((so.below h0).mono h0.size) (Or.inl rfl)).mono ?_
  rintro e w5 ⟨g4, rfl, hgg4, Hg4, hb⟩
  have zg4 : w.heap.size ≤ g4 := Nat.le_trans h0.size hgg4
  replace Su1 := Su1.later hb
  replace Su2 := Su2.later hb
  replace Hg3 := Hg3.below hb Hg3.lt
  replace h0 := grown_below h0 hb h0.size
  clear hb
  go_wp2_with fail
  refine (implOrderJumps_any _ _ Lb Lo _ hLb ((Hg3.sl (n := Lb.length) (c := Lb.length + roomN Lb.length) (by rw [roomy_length]; omega) (by omega) (by have := roomN_le Lb.length; unfold maxLen; omega)).roomy) ((Hg4.sl (n := Lo.length) (c := Lo.length + roomN Lo.length) (by rw [roomy_length]; omega) (by omega) (by have := roomN_le Lo.length; unfold maxLen; omega)).roomy)).mono ?_
  rintro e w6 ⟨rfl, hb⟩
  replace Su1 := Su1.later hb
  replace Su2 := Su2.later hb
  replace Hg3 := Hg3.below hb Hg3.lt
  replace Hg4 := Hg4.below hb Hg4.lt
  replace h0 := grown_below h0 hb h0.size
  clear hb
  go_wp2_with fail
  refine (toBook_any _ Lb false _ hyb ((sb.below h0).mono h0.size) (Or.inl rfl)).mono ?_
  rintro e w7 ⟨g5, rfl, hgg5, Hg5, hb⟩
  have zg5 : w.heap.size ≤ g5 := Nat.le_trans h0.size hgg5
  replace Su1 := Su1.later hb
  replace Su2 := Su2.later hb
  replace Hg3 := Hg3.below hb Hg3.lt
  replace Hg4 := Hg4.below hb Hg4.lt
  replace h0 := grown_below h0 hb h0.size
  clear hb
  go_wp2_with fail
  refine (intactBook_any g3 g5 Lb _ hyb Hg3 Hg5).mono ?_
  rintro e w8 ⟨rfl, hb⟩
  replace Su1 := Su1.later hb
  replace Su2 := Su2.later hb
  replace Hg3 := Hg3.below hb Hg3.lt
  replace Hg4 := Hg4.below hb Hg4.lt
  replace Hg5 := Hg5.below hb Hg5.lt
  replace h0 := grown_below h0 hb h0.size
  clear hb
  go_wp2_with fail
  refine (toInt64S_any _ Lo false _ hyo ((so.below h0).mono h0.size) (Or.inl rfl)).mono ?_
  rintro e w9 ⟨g6, rfl, hgg6, Hg6, hb⟩
  have zg6 : w.heap.size ≤ g6 := Nat.le_trans h0.size hgg6
  replace Su1 := Su1.later hb
  replace Su2 := Su2.later hb
  replace Hg3 := Hg3.below hb Hg3.lt
  replace Hg4 := Hg4.below hb Hg4.lt
  replace Hg5 := Hg5.below hb Hg5.lt
  replace h0 := grown_below h0 hb h0.size
  clear hb
  go_wp2_with fail
  refine (intactInt64S_any g4 g6 Lo _ hyo Hg4 Hg6).mono ?_
  rintro e w10 ⟨rfl, hb⟩
  replace Su1 := Su1.later hb
  replace Su2 := Su2.later hb
  replace Hg3 := Hg3.below hb Hg3.lt
  replace Hg4 := Hg4.below hb Hg4.lt
  replace Hg5 := Hg5.below hb Hg5.lt
  replace Hg6 := Hg6.below hb Hg6.lt
  replace h0 := grown_below h0 hb h0.size
  clear hb
  go_wp2_with fail
  refine (toBook_sl _ Lb true _ hyb ((sb.below h0).mono h0.size)).mono ?_
  rintro e w11 ⟨u7, rfl, Su7, hb⟩
  replace h0 := grown_below h0 hb h0.size
  clear hb
  go_wp2_with fail
  refine (toInt64S_sl _ Lo true _ hyo ((so.below h0).mono h0.size)).mono ?_
  rintro e w12 ⟨u8, rfl, Su8, hb⟩
  replace Su7 := Su7.later hb
  replace h0 := grown_below h0 hb h0.size
  clear hb
  go_wp2_with fail
  refine (implOrderJumps_any _ _ Lb Lo _ hLb Su7 Su8).mono ?_
  rintro e w13 ⟨rfl, hb⟩
  replace Su7 := Su7.later hb
  replace Su8 := Su8.later hb
  replace h0 := grown_below h0 hb h0.size
  clear hb
  go_wp2
  go_ret
  exact ⟨rfl, h0⟩
end Go.Proofs.Ytennmnkjdchbhaa.wFnExactOrderJumps
