/- The laws' eqFrame of a frame and itself. -/
import Derived.Test.YtjbjbdkmomkclaaRows
import Derived.Test.YtjbjbdkmomkclaaL1
namespace Go.Proofs.Ytjbjbdkmomkclaa
open Go.RowKit
theorem eqFrame_yes (f : Nat → Nat) (w : World) : Calls Try.prog 27 #[.agg (FC f), .agg (FC f)] w fun e w' => e = .returned (.bool true) ∧ Below w.heap.size w w' := by
  have := eqFrame_any f f w
  rw [eqF_refl] at this
  exact this
end Go.Proofs.Ytjbjbdkmomkclaa
