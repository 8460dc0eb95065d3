/- Rows of two element types lie in two blocks. No function of the program is named. -/
import Derived.Test.YtkcomhbmhgnhhaaMem
namespace Go.Proofs.Ytkcomhbmhgnhhaa
open Go.RowKit
set_option linter.unusedVariables false
theorem own_apart_t {α β : Type} {E : Enc α} {E' : Enc β} {w : World} {b b' : Nat} {t t' : TypeId} {v v' : Value} {L : List α} {L' : List β} (h : OwnL E w b t v L) (h' : OwnL E' w b' t' v' L') (ht : t ≠ t') : v.ownBlock = none ∨ v.ownBlock ≠ v'.ownBlock := by
  rcases h'.form with ⟨rfl, _⟩ | ⟨g, cap, R, rfl, _, _, _, _, hr⟩
  · by_cases hv : v.ownBlock = none
    · exact .inl hv
    · exact .inr (by simpa [Value.ownBlock] using hv)
  · exact .inr (by have := h.ne_type hr ht; simpa [Value.ownBlock] using this)
end Go.Proofs.Ytkcomhbmhgnhhaa
