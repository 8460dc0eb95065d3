/- DECIMALS: spec's Decimal. -/
import Derived.Test.YtajlkleoincoeabRows
import Derived.Test.YtajlkleoincoeabTxt
import Derived.Test.YtajlkleoincoeabS1
import Derived.Test.YtajlkleoincoeabTake
import Derived.Test.YtajlkleoincoeabAppH
namespace Go.Proofs.Ytajlkleoincoeab
open Go.RowKit
set_option linter.unusedVariables false
set_option linter.unusedSimpArgs false
/-- A digit. -/
def dg (m : Nat) : UInt8 := UInt8.ofNat (48 + m)
theorem dg_nat {m : Nat} (h : m < 10) : (dg m).toNat = 48 + m := by unfold dg; simp; omega
theorem dcL_small1 {n : Nat} (h : n < 10) : dcL n = [dg n] := dcL_small h
theorem dcL_big1 {n : Nat} (h : ¬ n < 10) : dcL n = dcL (n / 10) ++ [dg (n % 10)] := dcL_big h
theorem conv1 (m : Nat) (hm : m < 10) (g : Nat) (w : World) (hc : w.cell? ⟨g, 0, none⟩ = some (.int .u8 (48 + (m : Int)))) :
    (convert 60 9 (.slice (some ⟨g, 0, none⟩) 1 1)).run Try.prog w = .ok (.string (bsOf [dg m])) w := by
  have := run_convert_bytes_back (P := Try.prog) w 60 9 5 ⟨g, 0, none⟩ 1 [dg m] Try.underlying60 Try.underlying5 Try.underlying9 (fun j hj => by
    have hj0 : j = 0 := by simpa using hj
    subst hj0
    have := dg_nat hm
    simpa [Addr.add, this] using hc)
  exact this
theorem dec_cell (w : World) (x : Value) (t : TypeId) : (w.alloc (.cells #[x] t)).cell? ⟨w.heap.size, 0, none⟩ = some x := (Row.new w t #[x]).cell 0
theorem str_add (a b : List UInt8) (h : a.length + b.length ≤ 1000000000) (w : World) : (Op.stringOp .add (bsOf a) (bsOf b)).run Try.prog w = .ok (.string (bsOf (a ++ b))) w := by
  rw [run_string_add_sum w _ _ (by rw [bsOf_size, bsOf_size]; omega), bsOf_append]
theorem dcL_len (n : Nat) : ∀ k, n < 10 ^ (k + 1) → (dcL n).length ≤ k + 1 := by
  intro k
  induction k generalizing n with
  | zero => intro h; rw [dcL_small (by simpa using h)]; simp
  | succ k ih =>
    intro h
    by_cases h1 : n < 10
    · rw [dcL_small h1]; simp
    · rw [dcL_big h1]
      have := ih (n / 10) (by rw [Nat.pow_succ] at h; omega)
      simp; omega
end Go.Proofs.Ytajlkleoincoeab
