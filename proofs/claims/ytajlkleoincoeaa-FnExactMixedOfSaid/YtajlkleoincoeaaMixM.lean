/- TWO BOOKS OF ONE, PLAINLY. No program is named. -/
import Derived.Test.YtajlkleoincoeaaOrdM
namespace Go.Proofs.Ytajlkleoincoeaa
set_option linter.unusedVariables false
/-- The pages whose side is 0 (b), or is not. -/
def splL (L : List (Nat → Nat)) (S : List Int) (b : Bool) : Nat → List (Nat → Nat)
  | 0 => []
  | k + 1 => if decide (nAt S k = 0) = b then splL L S b k ++ [fAt L k] else splL L S b k
theorem splL_yes {L : List (Nat → Nat)} {S : List Int} {b : Bool} {k : Nat} (h : decide (nAt S k = 0) = b) : splL L S b (k + 1) = splL L S b k ++ [fAt L k] := if_pos h
theorem splL_no {L : List (Nat → Nat)} {S : List Int} {b : Bool} {k : Nat} (h : decide (nAt S k = 0) ≠ b) : splL L S b (k + 1) = splL L S b k := if_neg h
theorem splL_len (L : List (Nat → Nat)) (S : List Int) (b : Bool) : ∀ k, (splL L S b k).length ≤ k
  | 0 => Nat.le_refl _
  | k + 1 => by
    have := splL_len L S b k
    unfold splL
    split
    · simp; omega
    · omega
/-- Whether sides are as told, so far. -/
def sdK (L : List (Nat → Nat)) (S : List Int) : Nat → Bool
  | 0 => decide (S.length = L.length)
  | k + 1 => sdK L S k && inB (nAt S k) 0 1
theorem sdK_iff (L : List (Nat → Nat)) (S : List Int) : ∀ k, sdK L S k = true ↔ S.length = L.length ∧ ∀ i, i < k → 0 ≤ nAt S i ∧ nAt S i ≤ 1
  | 0 => by simp [sdK]
  | k + 1 => by
    rw [sdK, Bool.and_eq_true, sdK_iff L S k, inB_iff]
    constructor
    · rintro ⟨⟨h1, h2⟩, h3⟩
      refine ⟨h1, fun i hi => ?_⟩
      rcases Nat.lt_succ_iff_lt_or_eq.1 hi with h | rfl
      · exact h2 i h
      · exact h3
    · rintro ⟨h1, h2⟩
      exact ⟨⟨h1, fun i hi => h2 i (by omega)⟩, h2 k (by omega)⟩
def mxC (L : List (Nat → Nat)) (S : List Int) : Int := if okB L then (if sdK L S S.length then 0 else 2) else 1
theorem mxC_cases (L : List (Nat → Nat)) (S : List Int) : (okB L = false ∧ mxC L S = 1) ∨ (okB L = true ∧ sdK L S S.length = false ∧ mxC L S = 2) ∨ (okB L = true ∧ sdK L S S.length = true ∧ mxC L S = 0) := by
  unfold mxC; cases okB L <;> cases sdK L S S.length <;> simp
end Go.Proofs.Ytajlkleoincoeaa
