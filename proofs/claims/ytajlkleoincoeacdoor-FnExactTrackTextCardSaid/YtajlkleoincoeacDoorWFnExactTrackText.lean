/- The walk of the law FnExactTrackText: it returns true and writes nothing that was there. -/
import Derived.Test.YtajlkleoincoeacDoorRows
import Derived.Test.YtajlkleoincoeacDoorLBook
import Derived.Test.YtajlkleoincoeacDoorLI64
import Derived.Test.YtajlkleoincoeacDoorLKey
import Derived.Test.YtajlkleoincoeacDoorTrackT
namespace Go.Proofs.YtajlkleoincoeacDoor.wFnExactTrackText
set_option maxRecDepth 100000
open Go.RowKit
set_option linter.unusedVariables false
set_option linter.unusedSimpArgs false
set_option maxHeartbeats 4000000 in
theorem walk (vt : Value) (Lt : List (Int × Int × Int)) (hLt : ltK Lt) (w : World) (st : SlAt eKy w w.heap.size vt Lt) (hP : Pw w) :
    Calls Tryd.prog 5 #[vt] w fun e w' => e = .returned (.bool true) ∧ Below w.heap.size w w' := by
  obtain ⟨At, ct, het⟩ := st.form
  subst het
  have hmt := st.len
  have h0 := Below.refl w.heap.size w
  by_cases hzt : Lt.length ≤ 1000000
  case neg =>
    go_enter Tryd.func5, Tryd.ntmps5
    go_wp2_with fail
    refine (szTrack_from At Lt.length ct (1000000) _ hmt (by omega) (by omega)).mono ?_
    rintro e w' ⟨rfl, rfl⟩
    rw [if_neg (by omega)]
    go_wp2
    go_ret
    exact ⟨rfl, h0⟩
  have hyt : Lt.length ≤ 1000000 := by omega
  go_enter Tryd.func5, Tryd.ntmps5
  go_wp2_with fail
  refine (szTrack_from At Lt.length ct (1000000) _ hmt (by omega) (by omega)).mono ?_
  rintro e w' ⟨rfl, rfl⟩
  rw [if_pos (by omega)]
  have qt : 0 ≤ 1000000 - (Lt.length : Int) := by omega
  go_wp2_with fail
  refine (toTrack_sl _ Lt false _ hyt ((st.below h0).mono h0.size)).mono ?_
  rintro e w1 ⟨u1, rfl, Su1, hb⟩
  replace h0 := grown_below h0 hb h0.size
  clear hb
  go_wp2_with fail
  refine (specTrackText_any _ Lt _ hLt Su1).mono ?_
  rintro e w2 ⟨rfl, hb⟩
  replace Su1 := Su1.later hb
  replace h0 := grown_below h0 hb h0.size
  clear hb
  go_wp2_with fail
  refine (toTrack_any _ Lt false _ hyt ((st.below h0).mono h0.size) (Or.inl rfl)).mono ?_
  rintro e w3 ⟨g2, rfl, hgg2, Hg2, hb⟩
  have zg2 : w.heap.size ≤ g2 := Nat.le_trans h0.size hgg2
  replace Su1 := Su1.later hb
  replace h0 := grown_below h0 hb h0.size
  clear hb
  go_wp2_with fail
  refine (implTrackText_any _ Lt _ hLt (hP.below h0) ((Hg2.sl (n := Lt.length) (c := Lt.length + roomN Lt.length) (by rw [roomy_length]; omega) (by omega) (by have := roomN_le Lt.length; unfold maxLen; omega)).roomy)).mono ?_
  rintro e w4 ⟨rfl, hb⟩
  replace Su1 := Su1.later hb
  replace Hg2 := Hg2.below hb Hg2.lt
  replace h0 := grown_below h0 hb h0.size
  clear hb
  go_wp2_with fail
  refine (toTrack_any _ Lt false _ hyt ((st.below h0).mono h0.size) (Or.inl rfl)).mono ?_
  rintro e w5 ⟨g3, rfl, hgg3, Hg3, hb⟩
  have zg3 : w.heap.size ≤ g3 := Nat.le_trans h0.size hgg3
  replace Su1 := Su1.later hb
  replace Hg2 := Hg2.below hb Hg2.lt
  replace h0 := grown_below h0 hb h0.size
  clear hb
  go_wp2_with fail
  refine (intactTrack_any g2 g3 Lt _ hyt Hg2 Hg3).mono ?_
  rintro e w6 ⟨rfl, hb⟩
  replace Su1 := Su1.later hb
  replace Hg2 := Hg2.below hb Hg2.lt
  replace Hg3 := Hg3.below hb Hg3.lt
  replace h0 := grown_below h0 hb h0.size
  clear hb
  go_wp2_with fail
  refine (toTrack_sl _ Lt true _ hyt ((st.below h0).mono h0.size)).mono ?_
  rintro e w7 ⟨u4, rfl, Su4, hb⟩
  replace h0 := grown_below h0 hb h0.size
  clear hb
  go_wp2_with fail
  refine (implTrackText_any _ Lt _ hLt (hP.below h0) Su4).mono ?_
  rintro e w8 ⟨rfl, hb⟩
  replace Su4 := Su4.later hb
  replace h0 := grown_below h0 hb h0.size
  clear hb
  go_wp2
  go_ret
  exact ⟨rfl, h0⟩
end Go.Proofs.YtajlkleoincoeacDoor.wFnExactTrackText
