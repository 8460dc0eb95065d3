/- spec: InvertFrame. -/
import Derived.Test.YtennmnkjdchbhacDoorRows
import Derived.Test.YtennmnkjdchbhacDoorS1
namespace Go.Proofs.YtennmnkjdchbhacDoor
open Go.RowKit
set_option linter.unusedVariables false
theorem sub_inv {a : Nat} (h : a ≤ 4095) : 4095 - a = a ^^^ 4095 := by
  refine Nat.eq_of_testBit_eq fun i => ?_
  rw [show 4095 - a = 2 ^ 12 - (a + 1) by omega, show (4095 : Nat) = 2 ^ 12 - 1 by rfl, Nat.testBit_two_pow_sub_succ (by omega), Nat.testBit_xor, Nat.testBit_two_pow_sub_one]
  by_cases h : i < 12
  · simp [h]
  · have : a.testBit i = false := Nat.testBit_lt_two_pow (Nat.lt_of_lt_of_le (show a < 2 ^ 12 by omega) (Nat.pow_le_pow_right (by decide) (by omega)))
    simp [h, this]
theorem okC_cases (f : Nat → Nat) : (okF f = false ∧ okC f = 1) ∨ (okF f = true ∧ okC f = 0) := by
  unfold okC
  cases okF f <;> simp
end Go.Proofs.YtennmnkjdchbhacDoor
