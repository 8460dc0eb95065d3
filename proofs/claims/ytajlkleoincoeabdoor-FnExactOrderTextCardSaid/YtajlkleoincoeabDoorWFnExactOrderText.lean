/- The walk of the law FnExactOrderText: it returns true and writes nothing that was there. -/
import Derived.Test.YtajlkleoincoeabDoorRows
import Derived.Test.YtajlkleoincoeabDoorLBook
import Derived.Test.YtajlkleoincoeabDoorLI64
import Derived.Test.YtajlkleoincoeabDoorInts
import Derived.Test.YtajlkleoincoeabDoorOrdT
namespace Go.Proofs.YtajlkleoincoeabDoor.wFnExactOrderText
set_option maxRecDepth 100000
open Go.RowKit
set_option linter.unusedVariables false
set_option linter.unusedSimpArgs false
set_option maxHeartbeats 4000000 in
theorem walk (vo : Value) (Lo : List Int) (hLo : ltI Lo) (w : World) (so : SlAt (eI .i64) w w.heap.size vo Lo) :
    Calls Tryd.prog 3 #[vo] w fun e w' => e = .returned (.bool true) ∧ Below w.heap.size w w' := by
  obtain ⟨Ao, co, heo⟩ := so.form
  subst heo
  have hmo := so.len
  have h0 := Below.refl w.heap.size w
  by_cases hzo : Lo.length ≤ 1000000
  case neg =>
    have q0 : 1000000 < Lo.length := by omega
    unfold maxLen at hmo
    go_enter Tryd.func3, Tryd.ntmps3
    go_wp2
    go_ret
    exact ⟨rfl, h0⟩
  have hyo : Lo.length ≤ 1000000 := by omega
  go_enter Tryd.func3, Tryd.ntmps3
  go_wp2_with fail
  refine (toInt64S_sl _ Lo false _ hyo ((so.below h0).mono h0.size)).mono ?_
  rintro e w1 ⟨u1, rfl, Su1, hb⟩
  replace h0 := grown_below h0 hb h0.size
  clear hb
  go_wp2_with fail
  refine (specOrderText_any _ Lo _ Su1).mono ?_
  rintro e w2 ⟨rfl, hb⟩
  replace Su1 := Su1.later hb
  replace h0 := grown_below h0 hb h0.size
  clear hb
  go_wp2_with fail
  refine (toInt64S_any _ Lo false _ hyo ((so.below h0).mono h0.size) (Or.inl rfl)).mono ?_
  rintro e w3 ⟨g2, rfl, hgg2, Hg2, hb⟩
  have zg2 : w.heap.size ≤ g2 := Nat.le_trans h0.size hgg2
  replace Su1 := Su1.later hb
  replace h0 := grown_below h0 hb h0.size
  clear hb
  go_wp2_with fail
  refine (implOrderText_any _ Lo _ ((Hg2.sl (n := Lo.length) (c := Lo.length + roomN Lo.length) (by rw [roomy_length]; omega) (by omega) (by have := roomN_le Lo.length; unfold maxLen; omega)).roomy)).mono ?_
  rintro e w4 ⟨rfl, hb⟩
  replace Su1 := Su1.later hb
  replace Hg2 := Hg2.below hb Hg2.lt
  replace h0 := grown_below h0 hb h0.size
  clear hb
  go_wp2_with fail
  refine (toInt64S_any _ Lo false _ hyo ((so.below h0).mono h0.size) (Or.inl rfl)).mono ?_
  rintro e w5 ⟨g3, rfl, hgg3, Hg3, hb⟩
  have zg3 : w.heap.size ≤ g3 := Nat.le_trans h0.size hgg3
  replace Su1 := Su1.later hb
  replace Hg2 := Hg2.below hb Hg2.lt
  replace h0 := grown_below h0 hb h0.size
  clear hb
  go_wp2_with fail
  refine (intactInt64S_any g2 g3 Lo _ hyo Hg2 Hg3).mono ?_
  rintro e w6 ⟨rfl, hb⟩
  replace Su1 := Su1.later hb
  replace Hg2 := Hg2.below hb Hg2.lt
  replace Hg3 := Hg3.below hb Hg3.lt
  replace h0 := grown_below h0 hb h0.size
  clear hb
  go_wp2_with fail
  refine (toInt64S_sl _ Lo true _ hyo ((so.below h0).mono h0.size)).mono ?_
  rintro e w7 ⟨u4, rfl, Su4, hb⟩
  replace h0 := grown_below h0 hb h0.size
  clear hb
  go_wp2_with fail
  refine (implOrderText_any _ Lo _ Su4).mono ?_
  rintro e w8 ⟨rfl, hb⟩
  replace Su4 := Su4.later hb
  replace h0 := grown_below h0 hb h0.size
  clear hb
  go_wp2
  go_ret
  exact ⟨rfl, h0⟩
end Go.Proofs.YtajlkleoincoeabDoor.wFnExactOrderText
