/- DifferBy's number. -/
import Derived.Test.YtemeamamdddfnabRows
import Derived.Test.YtemeamamdddfnabCount
namespace Go.Proofs.Ytemeamamdddfnab
open Go.RowKit
set_option linter.unusedVariables false
/-- DifferBy's number. -/
def diffV (f g : Nat → Nat) : Int := if bothC f g = 0 then popSum (unlikeF f g) 12 else 0
theorem unlikeF_ok {f g : Nat → Nat} (hf : okF f = true) (hg : okF g = true) : okF (unlikeF f g) = true := okF_iff.2 fun y hy => by
  have h1 := okF_iff.1 hf y hy
  have h2 := okF_iff.1 hg y hy
  have : unlikeF f g y < 2 ^ 12 := Nat.xor_lt_two_pow (by omega) (by omega)
  omega
end Go.Proofs.Ytemeamamdddfnab
