/- MAJORITIES: spec's l04Most, impl's majority; MajorityOf, both. -/
import Derived.Test.YtjbjbdkmomkclaaIJoin
import Derived.Test.YtjbjbdkmomkclaaIMeet
import Derived.Test.YtjbjbdkmomkclaaIBook
import Derived.Test.YtjbjbdkmomkclaaWithDot
import Derived.Test.YtjbjbdkmomkclaaCellQ
namespace Go.Proofs.Ytjbjbdkmomkclaa
open Go.RowKit
set_option linter.unusedVariables false
set_option linter.unusedSimpArgs false
def majF (a b c : Nat → Nat) : Nat → Nat := fun y => ((a y &&& b y) ||| (a y &&& c y)) ||| (b y &&& c y)
theorem majF_eq (a b c : Nat → Nat) : joinF (joinF (meetF a b) (meetF b c)) (meetF c a) = majF a b c := by
  funext y
  unfold joinF meetF majF
  apply Nat.eq_of_testBit_eq
  intro i
  simp only [Nat.testBit_or, Nat.testBit_and]
  cases (a y).testBit i <;> cases (b y).testBit i <;> cases (c y).testBit i <;> rfl
def majC (a b c : Nat → Nat) : Int := if okF a && (okF b && okF c) then 0 else 1
theorem majC_cases (a b c : Nat → Nat) : (okF a = false ∧ majC a b c = 1) ∨ (okF a = true ∧ okF b = false ∧ majC a b c = 1) ∨ (okF a = true ∧ okF b = true ∧ okF c = false ∧ majC a b c = 1) ∨ (okF a = true ∧ okF b = true ∧ okF c = true ∧ majC a b c = 0) := by
  unfold majC; cases okF a <;> cases okF b <;> cases okF c <;> simp
theorem majF_lt {a b c : Nat → Nat} (ha : ∀ k, a k < 65536) (hb : ∀ k, b k < 65536) (hc : ∀ k, c k < 65536) (k : Nat) : majF a b c k < 65536 := by
  unfold majF
  exact Nat.or_lt_two_pow (n := 16) (Nat.or_lt_two_pow (n := 16) (Nat.lt_of_le_of_lt Nat.and_le_left (ha k)) (Nat.lt_of_le_of_lt Nat.and_le_left (ha k))) (Nat.lt_of_le_of_lt Nat.and_le_left (hb k))
theorem run_build3 (a b c : Nat → Nat) (w : World) : (Instr.buildSlice 31 3 #[(0, .agg (FC a)), (1, .agg (FC b)), (2, .agg (FC c))]).run Try.prog w = .ok (.slice (some ⟨w.heap.size, 0, none⟩) 3 3) (w.alloc (.cells (eFr.cells [a, b, c]).toArray 41)) := by kernel_rfl
/-- A slice of three elements is built. -/
theorem wpList_build3 {P : Program} {ops : Array Oper} {rest : List Oper} {o : Oper} {a : Act} {w : World} {Q : Exit → Act → World → Prop} (hgd : o.guard = none) (t e : TypeId) (x y z : Operand) (ho : o.op = .buildSlice t 3 #[(0, x), (1, y), (2, z)]) {u v q : Value} {cs : Array Value} (hx : a.eval x = u) (hy : a.eval y = v) (hz : a.eval z = q)
    (hr : ∀ w, (Instr.buildSlice t 3 #[(0, u), (1, v), (2, q)]).run P w = .ok (.slice (some ⟨w.heap.size, 0, none⟩) 3 3) (w.alloc (.cells cs e)))
    (h : wpList P ops Q rest (a.put o.dst (.slice (some ⟨w.heap.size, 0, none⟩) 3 3)) (w.alloc (.cells cs e))) : wpList P ops Q (o :: rest) a w :=
  wpList_plain hgd fun K hK => by
    unfold Oper.wp execOp
    simp only [ho, List.map_toArray, List.map_cons, List.map_nil, hx, hy, hz, Sem.run_bind, hr, Result.andThen_ok, Sem.run_pure]
    exact hK _ _ h
theorem okB3 (a b c : Nat → Nat) : okB [a, b, c] = (okF a && (okF b && okF c)) := by
  unfold okB
  simp
end Go.Proofs.Ytjbjbdkmomkclaa
