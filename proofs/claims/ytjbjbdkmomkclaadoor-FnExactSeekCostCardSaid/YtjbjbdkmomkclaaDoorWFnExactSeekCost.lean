/- The walk of the law FnExactSeekCost: it returns true and writes nothing that was there. -/
import Derived.Test.YtjbjbdkmomkclaaDoorRows
import Derived.Test.YtjbjbdkmomkclaaDoorLBook
import Derived.Test.YtjbjbdkmomkclaaDoorLI64
import Derived.Test.YtjbjbdkmomkclaaDoorStp3
import Derived.Test.YtjbjbdkmomkclaaDoorSeek
namespace Go.Proofs.YtjbjbdkmomkclaaDoor.wFnExactSeekCost
set_option maxRecDepth 100000
open Go.RowKit
set_option linter.unusedVariables false
set_option linter.unusedSimpArgs false
set_option maxHeartbeats 4000000 in
theorem walk (va : Value) (La : List Stp) (p : Int) (hLa : ltSt La) (hp : (Lit.int .i64 p).wf = true) (w : World) (sa : StsAt w w.heap.size va La) (hK : Kd w) :
    Calls Tryd.prog 7 #[va, .int .i64 p] w fun e w' => e = .returned (.bool true) ∧ Below w.heap.size w w' := by
  obtain ⟨Aa, ca, hea⟩ := sa.form
  subst hea
  have hma := sa.len
  have hla := szN_len La
  have h0 := Below.refl w.heap.size w
  by_cases hza : szN La ≤ 1000000
  case neg =>
    go_enter Tryd.func7, Tryd.ntmps7
    go_wp2_with fail
    refine (szStepS_any _ La (1000000) _ (by omega) (by omega) ((sa.below h0).mono h0.size)).mono ?_
    rintro e wz0 ⟨rfl, hb⟩
    replace h0 := grown_below h0 hb h0.size
    clear hb
    rw [show szR La (1000000) = -1 from if_neg (by omega)]
    go_wp2
    go_ret
    exact ⟨rfl, h0⟩
  have hya : La.length ≤ 1000000 := by omega
  have hSa : ∀ i, i < La.length → (tAt La i).2.length ≤ 1000000 := fun i hi => by have := szN_row La hi; omega
  go_enter Tryd.func7, Tryd.ntmps7
  go_wp2_with fail
  refine (szStepS_any _ La (1000000) _ (by omega) (by omega) ((sa.below h0).mono h0.size)).mono ?_
  rintro e w1 ⟨rfl, hb⟩
  replace h0 := grown_below h0 hb h0.size
  clear hb
  rw [show szR La (1000000) = 1000000 - (szN La : Int) from if_pos (by omega)]
  have qa : 0 ≤ 1000000 - (szN La : Int) := by omega
  go_wp2_with fail
  refine (toStepS_given _ La false _ hya hSa ((sa.below h0).mono h0.size)).mono ?_
  rintro e w2 ⟨u1, rfl, Su1, hb⟩
  replace Su1 := Su1.sts hya hSa
  replace h0 := grown_below h0 hb h0.size
  clear hb
  go_wp2_with fail
  refine (specSeek_any _ La p _ hLa hza Su1).mono ?_
  rintro e w3 ⟨rfl, hb⟩
  replace Su1 := Su1.later hb
  replace h0 := grown_below h0 hb h0.size
  clear hb
  go_wp2_with fail
  refine (toStepS_any _ La false _ hya hSa ((sa.below h0).mono h0.size) (Or.inl rfl)).mono ?_
  rintro e w4 ⟨g2, Rg2, rfl, hgg2, Hg2, hb⟩
  have zg2 : w.heap.size ≤ g2 := Nat.le_trans h0.size hgg2
  replace Su1 := Su1.later hb
  replace h0 := grown_below h0 hb h0.size
  clear hb
  go_wp2_with fail
  refine (implSeek_any _ La p _ hLa hza (hK.below h0) (Hg2.sts hya hSa)).mono ?_
  rintro e w5 ⟨rfl, hb⟩
  replace Su1 := Su1.later hb
  replace Hg2 := Hg2.below hb
  replace h0 := grown_below h0 hb h0.size
  clear hb
  go_wp2_with fail
  refine (toStepS_any _ La false _ hya hSa ((sa.below h0).mono h0.size) (Or.inl rfl)).mono ?_
  rintro e w6 ⟨g3, Rg3, rfl, hgg3, Hg3, hb⟩
  have zg3 : w.heap.size ≤ g3 := Nat.le_trans h0.size hgg3
  replace Su1 := Su1.later hb
  replace Hg2 := Hg2.below hb
  replace h0 := grown_below h0 hb h0.size
  clear hb
  go_wp2_with fail
  refine (intactStepS_any g2 g3 Rg2 Rg3 La _ hya hSa Hg2 Hg3).mono ?_
  rintro e w7 ⟨rfl, hb⟩
  replace Su1 := Su1.later hb
  replace Hg2 := Hg2.below hb
  replace Hg3 := Hg3.below hb
  replace h0 := grown_below h0 hb h0.size
  clear hb
  go_wp2_with fail
  refine (toStepS_given _ La true _ hya hSa ((sa.below h0).mono h0.size)).mono ?_
  rintro e w8 ⟨u4, rfl, Su4, hb⟩
  replace Su4 := Su4.sts hya hSa
  replace h0 := grown_below h0 hb h0.size
  clear hb
  go_wp2_with fail
  refine (implSeek_any _ La p _ hLa hza (hK.below h0) Su4).mono ?_
  rintro e w9 ⟨rfl, hb⟩
  replace Su4 := Su4.later hb
  replace h0 := grown_below h0 hb h0.size
  clear hb
  go_wp2
  go_ret
  exact ⟨rfl, h0⟩
end Go.Proofs.YtjbjbdkmomkclaaDoor.wFnExactSeekCost
