/- The walk of the law FnExactBookText: it returns true and writes nothing that was there. -/
import Derived.Test.YtajlkleoincoeabRows
import Derived.Test.YtajlkleoincoeabLBook
import Derived.Test.YtajlkleoincoeabLI64
import Derived.Test.YtajlkleoincoeabBkT
namespace Go.Proofs.Ytajlkleoincoeab.wFnExactBookText
set_option maxRecDepth 100000
open Go.RowKit
set_option linter.unusedVariables false
set_option linter.unusedSimpArgs false
set_option maxHeartbeats 4000000 in
theorem walk (vb : Value) (Lb : List (Nat → Nat)) (hLb : ltL Lb) (w : World) (sb : SlAt eFr w w.heap.size vb Lb) :
    Calls Try.prog 5 #[vb] w fun e w' => e = .returned (.bool true) ∧ Below w.heap.size w w' := by
  obtain ⟨Ab, cb, heb⟩ := sb.form
  subst heb
  have hmb := sb.len
  have h0 := Below.refl w.heap.size w
  by_cases hzb : Lb.length ≤ 1000000
  case neg =>
    go_enter Try.func5, Try.ntmps5
    go_wp2_with fail
    refine (szBook_from Ab Lb.length cb (1000000) _ hmb (by omega) (by omega)).mono ?_
    rintro e w' ⟨rfl, rfl⟩
    rw [if_neg (by omega)]
    go_wp2
    go_ret
    exact ⟨rfl, h0⟩
  have hyb : Lb.length ≤ 1000000 := by omega
  go_enter Try.func5, Try.ntmps5
  go_wp2_with fail
  refine (szBook_from Ab Lb.length cb (1000000) _ hmb (by omega) (by omega)).mono ?_
  rintro e w' ⟨rfl, rfl⟩
  rw [if_pos (by omega)]
  have qb : 0 ≤ 1000000 - (Lb.length : Int) := by omega
  go_wp2_with fail
  refine (toBook_sl _ Lb false _ hyb ((sb.below h0).mono h0.size)).mono ?_
  rintro e w1 ⟨u1, rfl, Su1, hb⟩
  replace h0 := grown_below h0 hb h0.size
  clear hb
  go_wp2_with fail
  refine (specBookText_any _ Lb _ hLb Su1).mono ?_
  rintro e w2 ⟨rfl, hb⟩
  replace Su1 := Su1.later hb
  replace h0 := grown_below h0 hb h0.size
  clear hb
  go_wp2_with fail
  refine (toBook_any _ Lb false _ hyb ((sb.below h0).mono h0.size) (Or.inl rfl)).mono ?_
  rintro e w3 ⟨g2, rfl, hgg2, Hg2, hb⟩
  have zg2 : w.heap.size ≤ g2 := Nat.le_trans h0.size hgg2
  replace Su1 := Su1.later hb
  replace h0 := grown_below h0 hb h0.size
  clear hb
  go_wp2_with fail
  refine (implBookText_any _ Lb _ hLb ((Hg2.sl (n := Lb.length) (c := Lb.length + roomN Lb.length) (by rw [roomy_length]; omega) (by omega) (by have := roomN_le Lb.length; unfold maxLen; omega)).roomy)).mono ?_
  rintro e w4 ⟨rfl, hb⟩
  replace Su1 := Su1.later hb
  replace Hg2 := Hg2.below hb Hg2.lt
  replace h0 := grown_below h0 hb h0.size
  clear hb
  go_wp2_with fail
  refine (toBook_any _ Lb false _ hyb ((sb.below h0).mono h0.size) (Or.inl rfl)).mono ?_
  rintro e w5 ⟨g3, rfl, hgg3, Hg3, hb⟩
  have zg3 : w.heap.size ≤ g3 := Nat.le_trans h0.size hgg3
  replace Su1 := Su1.later hb
  replace Hg2 := Hg2.below hb Hg2.lt
  replace h0 := grown_below h0 hb h0.size
  clear hb
  go_wp2_with fail
  refine (intactBook_any g2 g3 Lb _ hyb Hg2 Hg3).mono ?_
  rintro e w6 ⟨rfl, hb⟩
  replace Su1 := Su1.later hb
  replace Hg2 := Hg2.below hb Hg2.lt
  replace Hg3 := Hg3.below hb Hg3.lt
  replace h0 := grown_below h0 hb h0.size
  clear hb
  go_wp2_with fail
  refine (toBook_sl _ Lb true _ hyb ((sb.below h0).mono h0.size)).mono ?_
  rintro e w7 ⟨u4, rfl, Su4, hb⟩
  replace h0 := grown_below h0 hb h0.size
  clear hb
  go_wp2_with fail
  refine (implBookText_any _ Lb _ hLb Su4).mono ?_
  rintro e w8 ⟨rfl, hb⟩
  replace Su4 := Su4.later hb
  replace h0 := grown_below h0 hb h0.size
  clear hb
  go_wp2
  go_ret
  exact ⟨rfl, h0⟩
end Go.Proofs.Ytajlkleoincoeab.wFnExactBookText
