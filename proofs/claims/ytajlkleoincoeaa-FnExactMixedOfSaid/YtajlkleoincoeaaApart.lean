/- Rows of two element types lie in two blocks. No function of the program is named. -/
import Derived.Test.YtajlkleoincoeaaMem
namespace Go.Proofs.Ytajlkleoincoeaa
open Go.RowKit
set_option linter.unusedVariables false
theorem own_apart_t {α β : Type} {E : Enc α} {E' : Enc β} {w : World} {b b' : Nat} {t t' : TypeId} {v v' : Value} {L : List α} {L' : List β} (h : OwnL E w b t v L) (h' : OwnL E' w b' t' v' L') (ht : t ≠ t') : v.ownBlock = none ∨ v.ownBlock ≠ v'.ownBlock := by
  rcases h'.form with ⟨rfl, _⟩ | ⟨g, cap, R, rfl, _, _, _, _, hr⟩
  · by_cases hv : v.ownBlock = none
    · exact .inl hv
    · exact .inr (by simpa [Value.ownBlock] using hv)
  · exact .inr (by have := h.ne_type hr ht; simpa [Value.ownBlock] using this)
theorem apart_symm {v u : Value} (h : v.ownBlock = none ∨ v.ownBlock ≠ u.ownBlock) : u.ownBlock = none ∨ u.ownBlock ≠ v.ownBlock := by
  rcases h with h | h
  · by_cases hu : u.ownBlock = none
    · exact .inl hu
    · exact .inr (by rw [h]; exact hu)
  · exact .inr (Ne.symm h)
theorem MarkedV.kept {w w' : World} {v : Value} {val : Nat → Value} {n m : Nat} {row : Option Nat} (h : MarkedV w v val n m) (hg : w.grownBy w' row) (hne : v.ownBlock = none ∨ v.ownBlock ≠ row) : MarkedV w' v val n m := by
  obtain ⟨A, c, rfl, h⟩ := h
  refine ⟨A, c, rfl, ?_⟩
  rcases h with h | ⟨g, rfl, hlt, hm⟩
  · exact .inl h
  · rcases hne with hne | hne
    · simp [Value.ownBlock] at hne
    · exact .inr ⟨g, rfl, Nat.lt_of_lt_of_le hlt hg.size, hm.keep (hg.block g hlt (by simpa [Value.ownBlock] using hne))⟩
end Go.Proofs.Ytajlkleoincoeaa
