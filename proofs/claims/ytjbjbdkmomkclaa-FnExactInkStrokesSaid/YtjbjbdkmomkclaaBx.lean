/- A box: four numbers. No function of the program is named. -/
import Derived.Test.YtjbjbdkmomkclaaFr
namespace Go.Proofs.Ytjbjbdkmomkclaa
open Go.RowKit
def BX (x y a b : Int) : Array Value := #[.int .i8 x, .int .i8 y, .int .i8 a, .int .i8 b]
theorem BX_one (x y a b : Int) : ∀ v ∈ (BX x y a b).toList, v.oneCell' = true := by
  intro v hv
  simp only [BX, List.mem_cons, List.not_mem_nil, or_false] at hv
  rcases hv with rfl | rfl | rfl | rfl <;> rfl
end Go.Proofs.Ytjbjbdkmomkclaa
