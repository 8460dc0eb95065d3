/- impl: sumOf, JumpsOf, AllJumps, LoopJumps. -/
import Derived.Test.YtkcomhbmhgnhhabRows
import Derived.Test.YtkcomhbmhgnhhabIBook
namespace Go.Proofs.Ytkcomhbmhgnhhab
open Go.RowKit
set_option linter.unusedVariables false
set_option linter.unusedSimpArgs false
theorem sum_ifL (c : Int) (l : List Int) : sumI (ifL c l) = ifI c (sumI l) := by
  unfold ifL ifI; split <;> rfl
theorem ifL_mem {α : Type} {p : α → Prop} {c : Int} {l : List α} (h : ∀ x ∈ l, p x) : ∀ x ∈ ifL c l, p x := by
  unfold ifL; split
  · exact h
  · simp
theorem ifL_length_le {α : Type} (c : Int) (l : List α) : (ifL c l).length ≤ l.length := by
  unfold ifL; split <;> simp
theorem ifL_len {α : Type} {c : Int} {l : List α} (h : c = 0 → l.length ≤ 1000) : (ifL c l).length ≤ 1000 := by
  unfold ifL; split
  · rename_i hc; exact h hc
  · simp
theorem okB_of {L : List (Nat → Nat)} (h : okBC L = 0) : okB L = true := by unfold okBC at h; cases ho : okB L <;> simp_all
theorem jumps_if_len (L : List (Nat → Nat)) : (ifL (okBC L) (jumpsL L)).length ≤ 40 := by
  rcases okBC_cases L with ⟨ho, hc⟩ | ⟨ho, hc⟩
  · rw [hc, ifL1 _ (by decide)]; simp
  · rw [hc, ifL0, jumpsL_length]; have := okB_len ho; omega
theorem tabjmp_bounds (L : List (Nat → Nat)) (n : Nat) : ∀ x ∈ tab (jmp L) n, 0 ≤ x ∧ x ≤ 192 := by
  intro x hx
  obtain ⟨i, _, rfl⟩ := List.mem_map.1 hx
  exact jmp_bounds L i
end Go.Proofs.Ytkcomhbmhgnhhab
