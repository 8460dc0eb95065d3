/- The walk of the law FnExactOffsetAt: it returns true and writes nothing that was there. -/
import Derived.Test.YtpmlepgnokbpaaaRows
import Derived.Test.YtpmlepgnokbpaaaLBook
import Derived.Test.YtpmlepgnokbpaaaLI64
import Derived.Test.YtpmlepgnokbpaaaLScene
import Derived.Test.YtpmlepgnokbpaaaSc
namespace Go.Proofs.Ytpmlepgnokbpaaa.wFnExactOffsetAt
set_option maxRecDepth 100000
open Go.RowKit
set_option linter.unusedVariables false
set_option linter.unusedSimpArgs false
set_option maxHeartbeats 4000000 in
theorem walk (vs : Value) (Ls : List Ly) (q : Int) (x : Int) (y : Int) (hLs : ltLy Ls) (hq : (Lit.int .i64 q).wf = true) (hx : (Lit.int .i64 x).wf = true) (hy : (Lit.int .i64 y).wf = true) (w : World) (ss : SlAt eLy w w.heap.size vs Ls) :
    Calls Try.prog 10 #[vs, .int .i64 q, .int .i64 x, .int .i64 y] w fun e w' => e = .returned (.bool true) ∧ Below w.heap.size w w' := by
  obtain ⟨As, cs, hes⟩ := ss.form
  subst hes
  have hms := ss.len
  have h0 := Below.refl w.heap.size w
  by_cases hzs : Ls.length ≤ 1000000
  case neg =>
    go_enter Try.func10, Try.ntmps10
    go_wp2_with fail
    refine (szScene_from As Ls.length cs (1000000) _ hms (by omega) (by omega)).mono ?_
    rintro e w' ⟨rfl, rfl⟩
    rw [if_neg (by omega)]
    go_wp2
    go_ret
    exact ⟨rfl, h0⟩
  have hys : Ls.length ≤ 1000000 := by omega
  go_enter Try.func10, Try.ntmps10
  go_wp2_with fail
  refine (szScene_from As Ls.length cs (1000000) _ hms (by omega) (by omega)).mono ?_
  rintro e w' ⟨rfl, rfl⟩
  rw [if_pos (by omega)]
  have qs : 0 ≤ 1000000 - (Ls.length : Int) := by omega
  go_wp2_with fail
  refine (toScene_sl _ Ls false _ hys ((ss.below h0).mono h0.size)).mono ?_
  rintro e w1 ⟨u1, rfl, Su1, hb⟩
  replace h0 := grown_below h0 hb h0.size
  clear hb
  go_wp2_with fail
  refine (specOffsetAt_any _ Ls q x y _ hLs hq Su1).mono ?_
  rintro e w2 ⟨rfl, hb⟩
  replace Su1 := Su1.later hb
  replace h0 := grown_below h0 hb h0.size
  clear hb
  go_wp2_with fail
  refine (toScene_any _ Ls false _ hys ((ss.below h0).mono h0.size) (Or.inl rfl)).mono ?_
  rintro e w3 ⟨g2, rfl, hgg2, Hg2, hb⟩
  have zg2 : w.heap.size ≤ g2 := Nat.le_trans h0.size hgg2
  replace Su1 := Su1.later hb
  replace h0 := grown_below h0 hb h0.size
  clear hb
  go_wp2_with fail
  refine (implOffsetAt_any _ Ls q x y _ hLs hq ((Hg2.sl (n := Ls.length) (c := Ls.length + roomN Ls.length) (by rw [roomy_length]; omega) (by omega) (by have := roomN_le Ls.length; unfold maxLen; omega)).roomy)).mono ?_
  rintro e w4 ⟨rfl, hb⟩
  replace Su1 := Su1.later hb
  replace Hg2 := Hg2.below hb Hg2.lt
  replace h0 := grown_below h0 hb h0.size
  clear hb
  go_wp2_with fail
  refine (toScene_any _ Ls false _ hys ((ss.below h0).mono h0.size) (Or.inl rfl)).mono ?_
  rintro e w5 ⟨g3, rfl, hgg3, Hg3, hb⟩
  have zg3 : w.heap.size ≤ g3 := Nat.le_trans h0.size hgg3
  replace Su1 := Su1.later hb
  replace Hg2 := Hg2.below hb Hg2.lt
  replace h0 := grown_below h0 hb h0.size
  clear hb
  go_wp2_with fail
  refine (intactScene_any g2 g3 Ls _ hys Hg2 Hg3).mono ?_
  rintro e w6 ⟨rfl, hb⟩
  replace Su1 := Su1.later hb
  replace Hg2 := Hg2.below hb Hg2.lt
  replace Hg3 := Hg3.below hb Hg3.lt
  replace h0 := grown_below h0 hb h0.size
  clear hb
  go_wp2_with fail
  refine (toScene_sl _ Ls true _ hys ((ss.below h0).mono h0.size)).mono ?_
  rintro e w7 ⟨u4, rfl, Su4, hb⟩
  replace h0 := grown_below h0 hb h0.size
  clear hb
  go_wp2_with fail
  refine (implOffsetAt_any _ Ls q x y _ hLs hq Su4).mono ?_
  rintro e w8 ⟨rfl, hb⟩
  replace Su4 := Su4.later hb
  replace h0 := grown_below h0 hb h0.size
  clear hb
  go_wp2
  go_ret
  exact ⟨rfl, h0⟩
end Go.Proofs.Ytpmlepgnokbpaaa.wFnExactOffsetAt
