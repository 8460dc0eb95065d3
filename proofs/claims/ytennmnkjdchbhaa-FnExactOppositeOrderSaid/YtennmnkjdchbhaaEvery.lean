/- EveryPage: spec and impl. -/
import Derived.Test.YtennmnkjdchbhaaRows
import Derived.Test.YtennmnkjdchbhaaBack
import Derived.Test.YtennmnkjdchbhaaApp
namespace Go.Proofs.Ytennmnkjdchbhaa
open Go.RowKit
set_option linter.unusedVariables false
set_option linter.unusedSimpArgs false
def evN (n s f : Nat) : Nat := (n - f + s - 1) / s
theorem ev_iff {n s f k : Nat} (hs : 0 < s) : k < evN n s f ↔ f + k * s < n := by
  unfold evN
  rw [Nat.lt_iff_add_one_le, Nat.le_div_iff_mul_le hs, Nat.succ_mul]
  omega
theorem evN_le {n s f : Nat} (hs : 0 < s) : evN n s f ≤ n := by
  apply Classical.byContradiction
  intro h
  have h1 := (ev_iff (n := n) (f := f) (k := n) hs).1 (by omega)
  have : n * 1 ≤ n * s := Nat.mul_le_mul_left _ hs
  omega
def everyL (L : List (Nat → Nat)) (s f : Nat) : List (Nat → Nat) := tab (fun k => fAt L (f + k * s)) (evN L.length s f)
def evC (L : List (Nat → Nat)) (s f : Int) : Int := if okB L then (if inB s 1 40 && inB f 0 ((L.length : Int) - 1) then 0 else 2) else 1
theorem evC_cases (L : List (Nat → Nat)) (s f : Int) : (okB L = false ∧ evC L s f = 1) ∨ (okB L = true ∧ inB s 1 40 = false ∧ evC L s f = 2) ∨ (okB L = true ∧ inB s 1 40 = true ∧ inB f 0 ((L.length : Int) - 1) = false ∧ evC L s f = 2) ∨ (okB L = true ∧ inB s 1 40 = true ∧ inB f 0 ((L.length : Int) - 1) = true ∧ evC L s f = 0) := by
  unfold evC; cases okB L <;> cases inB s 1 40 <;> cases inB f 0 ((L.length : Int) - 1) <;> simp
def everyV (L : List (Nat → Nat)) (s f : Int) : List (Nat → Nat) := everyL L s.toNat f.toNat
theorem every_if_len (L : List (Nat → Nat)) (s f : Int) : (ifL (evC L s f) (everyV L s f)).length ≤ 1000 := by
  refine ifL_len fun hc => ?_
  rcases evC_cases L s f with ⟨_, h⟩ | ⟨_, _, h⟩ | ⟨_, _, _, h⟩ | ⟨ho, h1, _, h⟩
  · omega
  · omega
  · omega
  · unfold everyV everyL
    rw [tab_length]
    have := okB_len ho
    have h2 := inB_iff.1 h1
    have := evN_le (n := L.length) (s := s.toNat) (f := f.toNat) (by omega)
    omega
end Go.Proofs.Ytennmnkjdchbhaa
