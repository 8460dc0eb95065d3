/- spec: JumpsOf, AllJumps, LoopJumps. -/
import Derived.Test.YtjbjbdkmomkclabRows
import Derived.Test.YtjbjbdkmomkclabSBook
import Derived.Test.YtjbjbdkmomkclabTake
namespace Go.Proofs.Ytjbjbdkmomkclab
open Go.RowKit
set_option linter.unusedVariables false
set_option linter.unusedSimpArgs false
theorem jumpsL_bounds (L : List (Nat → Nat)) : ∀ x ∈ jumpsL L, 0 ≤ x ∧ x ≤ 192 := by
  intro x hx
  obtain ⟨i, _, rfl⟩ := List.mem_map.1 hx
  exact jmp_bounds L i
theorem jumpsL_length (L : List (Nat → Nat)) : (jumpsL L).length = L.length - 1 := tab_length _ _
theorem okB_len {L : List (Nat → Nat)} (h : okB L = true) : L.length ≤ 40 := (okB_iff.1 h).1
def allV (L : List (Nat → Nat)) : Int := ifI (okBC L) (sumI (jumpsL L))
def loopV (L : List (Nat → Nat)) : Int := ifI (okBC L) (sumI (tab (jmp L) L.length))
end Go.Proofs.Ytjbjbdkmomkclab
