/- The walk of the law FnExactSameSteps: it returns true and writes nothing that was there. -/
import Derived.Test.YtjbjbdkmomkclaaRows
import Derived.Test.YtjbjbdkmomkclaaLBook
import Derived.Test.YtjbjbdkmomkclaaLI64
import Derived.Test.YtjbjbdkmomkclaaStp3
import Derived.Test.YtjbjbdkmomkclaaSmS
import Derived.Test.YtjbjbdkmomkclaaSmS6
namespace Go.Proofs.Ytjbjbdkmomkclaa.wFnExactSameSteps
set_option maxRecDepth 100000
open Go.RowKit
set_option linter.unusedVariables false
set_option linter.unusedSimpArgs false
set_option maxHeartbeats 4000000 in
theorem walk (va : Value) (La : List Stp) (vb : Value) (Lb : List Stp) (hLa : ltSt La) (hLb : ltSt Lb) (w : World) (sa : StsAt w w.heap.size va La) (sb : StsAt w w.heap.size vb Lb) :
    Calls Try.prog 4 #[va, vb] w fun e w' => e = .returned (.bool true) ∧ Below w.heap.size w w' := by
  obtain ⟨Aa, ca, hea⟩ := sa.form
  subst hea
  have hma := sa.len
  have hla := szN_len La
  obtain ⟨Ab, cb, heb⟩ := sb.form
  subst heb
  have hmb := sb.len
  have hlb := szN_len Lb
  have h0 := Below.refl w.heap.size w
  by_cases hza : szN La ≤ 1000000
  case neg =>
    go_enter Try.func4, Try.ntmps4
    go_wp2_with fail
    refine (szStepS_any _ La (1000000) _ (by omega) (by omega) ((sa.below h0).mono h0.size)).mono ?_
    rintro e wz0 ⟨rfl, hb⟩
    replace h0 := grown_below h0 hb h0.size
    clear hb
    rw [show szR La (1000000) = -1 from if_neg (by omega)]
    go_wp2
    go_ret
    exact ⟨rfl, h0⟩
  by_cases hzb : szN La + szN Lb ≤ 1000000
  case neg =>
    go_enter Try.func4, Try.ntmps4
    go_wp2_with fail
    refine (szStepS_any _ La (1000000) _ (by omega) (by omega) ((sa.below h0).mono h0.size)).mono ?_
    rintro e wz0 ⟨rfl, hb⟩
    replace h0 := grown_below h0 hb h0.size
    clear hb
    rw [show szR La (1000000) = 1000000 - (szN La : Int) from if_pos (by omega)]
    have qa : 0 ≤ 1000000 - (szN La : Int) := by omega
    go_wp2_with fail
    refine (szStepS_any _ Lb (1000000 - (szN La : Int)) _ (by omega) (by omega) ((sb.below h0).mono h0.size)).mono ?_
    rintro e wz1 ⟨rfl, hb⟩
    replace h0 := grown_below h0 hb h0.size
    clear hb
    rw [show szR Lb (1000000 - (szN La : Int)) = -1 from if_neg (by omega)]
    go_wp2
    go_ret
    exact ⟨rfl, h0⟩
  have hya : La.length ≤ 1000000 := by omega
  have hSa : ∀ i, i < La.length → (tAt La i).2.length ≤ 1000000 := fun i hi => by have := szN_row La hi; omega
  have hyb : Lb.length ≤ 1000000 := by omega
  have hSb : ∀ i, i < Lb.length → (tAt Lb i).2.length ≤ 1000000 := fun i hi => by have := szN_row Lb hi; omega
  go_enter Try.func4, Try.ntmps4
  go_wp2_with fail
  refine (szStepS_any _ La (1000000) _ (by omega) (by omega) ((sa.below h0).mono h0.size)).mono ?_
  rintro e w1 ⟨rfl, hb⟩
  replace h0 := grown_below h0 hb h0.size
  clear hb
  rw [show szR La (1000000) = 1000000 - (szN La : Int) from if_pos (by omega)]
  have qa : 0 ≤ 1000000 - (szN La : Int) := by omega
  go_wp2_with fail
  refine (szStepS_any _ Lb (1000000 - (szN La : Int)) _ (by omega) (by omega) ((sb.below h0).mono h0.size)).mono ?_
  rintro e w2 ⟨rfl, hb⟩
  replace h0 := grown_below h0 hb h0.size
  clear hb
  rw [show szR Lb (1000000 - (szN La : Int)) = 1000000 - (szN La : Int) - (szN Lb : Int) from if_pos (by omega)]
  have qb : 0 ≤ 1000000 - (szN La : Int) - (szN Lb : Int) := by omega
  go_wp2_with fail
  refine (toStepS_given _ La false _ hya hSa ((sa.below h0).mono h0.size)).mono ?_
  rintro e w3 ⟨u1, rfl, Su1, hb⟩
  replace Su1 := Su1.sts hya hSa
  replace h0 := grown_below h0 hb h0.size
  clear hb
  go_wp2_with fail
  refine (toStepS_given _ Lb false _ hyb hSb ((sb.below h0).mono h0.size)).mono ?_
  rintro e w4 ⟨u2, rfl, Su2, hb⟩
  replace Su2 := Su2.sts hyb hSb
  replace Su1 := Su1.later hb
  replace h0 := grown_below h0 hb h0.size
  clear hb
  go_wp2_with fail
  refine (specSameSteps_any _ _ La Lb _ Su1 Su2).mono ?_
  rintro e w5 ⟨rfl, hb⟩
  replace Su1 := Su1.later hb
  replace Su2 := Su2.later hb
  replace h0 := grown_below h0 hb h0.size
  clear hb
  go_wp2_with fail
  refine (toStepS_any _ La false _ hya hSa ((sa.below h0).mono h0.size) (Or.inl rfl)).mono ?_
  rintro e w6 ⟨g3, Rg3, rfl, hgg3, Hg3, hb⟩
  have zg3 : w.heap.size ≤ g3 := Nat.le_trans h0.size hgg3; have zqg3 := hb.size
  replace Su1 := Su1.later hb
  replace Su2 := Su2.later hb
  replace h0 := grown_below h0 hb h0.size
  clear hb
  go_wp2_with fail
  refine (toStepS_any _ Lb false _ hyb hSb ((sb.below h0).mono h0.size) (Or.inl rfl)).mono ?_
  rintro e w7 ⟨g4, Rg4, rfl, hgg4, Hg4, hb⟩
  have zg4 : w.heap.size ≤ g4 := Nat.le_trans h0.size hgg4; have zqg4 := hb.size
  replace Su1 := Su1.later hb
  replace Su2 := Su2.later hb
  replace Hg3 := Hg3.below hb
  replace h0 := grown_below h0 hb h0.size
  clear hb
  go_wp2_with fail
  refine (implSameSteps_any _ _ La Lb _ (Hg3.sts hya hSa) (Hg4.sts hyb hSb)).mono ?_
  rintro e w8 ⟨rfl, hb⟩
  replace Su1 := Su1.later hb
  replace Su2 := Su2.later hb
  replace Hg3 := Hg3.below hb
  replace Hg4 := Hg4.below hb
  replace h0 := grown_below h0 hb h0.size
  clear hb
  go_wp2_with fail
  refine (toStepS_any _ La false _ hya hSa ((sa.below h0).mono h0.size) (Or.inl rfl)).mono ?_
  rintro e w9 ⟨g5, Rg5, rfl, hgg5, Hg5, hb⟩
  have zg5 : w.heap.size ≤ g5 := Nat.le_trans h0.size hgg5; have zqg5 := hb.size
  replace Su1 := Su1.later hb
  replace Su2 := Su2.later hb
  replace Hg3 := Hg3.below hb
  replace Hg4 := Hg4.below hb
  replace h0 := grown_below h0 hb h0.size
  clear hb
  go_wp2_with fail
  refine (intactStepS_any g3 g5 Rg3 Rg5 La _ hya hSa Hg3 Hg5).mono ?_
  rintro e w10 ⟨rfl, hb⟩
  replace Su1 := Su1.later hb
  replace Su2 := Su2.later hb
  replace Hg3 := Hg3.below hb
  replace Hg4 := Hg4.below hb
  replace Hg5 := Hg5.below hb
  replace h0 := grown_below h0 hb h0.size
  clear hb
  go_wp2_with fail
  refine (toStepS_any _ Lb false _ hyb hSb ((sb.below h0).mono h0.size) (Or.inl rfl)).mono ?_
  rintro e w11 ⟨g6, Rg6, rfl, hgg6, Hg6, hb⟩
  have zg6 : w.heap.size ≤ g6 := Nat.le_trans h0.size hgg6; have zqg6 := hb.size
  replace Su1 := Su1.later hb
  replace Su2 := Su2.later hb
  replace Hg3 := Hg3.below hb
  replace Hg4 := Hg4.below hb
  replace h0 := grown_below h0 hb h0.size
  clear hb
  go_wp2_with fail
  refine (intactStepS_any g4 g6 Rg4 Rg6 Lb _ hyb hSb Hg4 Hg6).mono ?_
  rintro e w12 ⟨rfl, hb⟩
  replace Su1 := Su1.later hb
  replace Su2 := Su2.later hb
  replace Hg3 := Hg3.below hb
  replace Hg4 := Hg4.below hb
  replace Hg6 := Hg6.below hb
  replace h0 := grown_below h0 hb h0.size
  clear hb
  go_wp2_with fail
  refine (toStepS_given _ La true _ hya hSa ((sa.below h0).mono h0.size)).mono ?_
  rintro e w13 ⟨u7, rfl, Su7, hb⟩
  replace Su7 := Su7.sts hya hSa
  replace h0 := grown_below h0 hb h0.size
  clear hb
  go_wp2_with fail
  refine (toStepS_given _ Lb true _ hyb hSb ((sb.below h0).mono h0.size)).mono ?_
  rintro e w14 ⟨u8, rfl, Su8, hb⟩
  replace Su8 := Su8.sts hyb hSb
  replace Su7 := Su7.later hb
  replace h0 := grown_below h0 hb h0.size
  clear hb
  go_wp2_with fail
  refine (implSameSteps_any _ _ La Lb _ Su7 Su8).mono ?_
  rintro e w15 ⟨rfl, hb⟩
  replace Su7 := Su7.later hb
  replace Su8 := Su8.later hb
  replace h0 := grown_below h0 hb h0.size
  clear hb
  go_wp2
  go_ret
  exact ⟨rfl, h0⟩
end Go.Proofs.Ytjbjbdkmomkclaa.wFnExactSameSteps
