/- NUMBERS BETWEEN TWO. spec: l00Max, l03Size, l03Between, BetweenOf; impl: sizeOf, numberBetween, BetweenOf. -/
import Derived.Test.YtennmnkjdchbhaaDoorEase
import Derived.Test.YtennmnkjdchbhaaDoorIWithin
namespace Go.Proofs.YtennmnkjdchbhaaDoor
open Go.RowKit
set_option linter.unusedVariables false
set_option linter.unusedSimpArgs false
/-- The way as a number of its own. -/
theorem way {a b s : Int} (ha : -1000 ≤ a ∧ a ≤ 1000) (hb : -1000 ≤ b ∧ b ≤ 1000) (hs : 0 ≤ s ∧ s ≤ 1000) :
    ∃ z p q : Int, szI (b - a) = z ∧ IntKind.i64.wrap (z * s) = p ∧ 0 ≤ p ∧ p ≤ 2000000 ∧ q = (p + 500) / 1000 ∧ 0 ≤ q ∧ q ≤ 2001 ∧ betI a b s = if b < a then a - q else a + q := by
  have h0 := szI_nonneg (b - a)
  have h1 : szI (b - a) ≤ 2000 := szI_le (by omega) (by omega)
  have h2 := mul_bounds (a := szI (b - a)) (b := s) (m := 2000) (n := 1000) ⟨h0, h1⟩ hs
  refine ⟨_, _, _, rfl, IntWalk.i64_in _ (by omega), h2.1, by omega, rfl, by omega, by omega, rfl⟩
end Go.Proofs.YtennmnkjdchbhaaDoor
