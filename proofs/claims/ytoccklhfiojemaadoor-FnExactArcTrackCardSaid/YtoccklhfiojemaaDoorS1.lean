/- spec: l00In, l01Ok, ValidFrame, l01Place, l01Asked, l01Has, l01Put. -/
import Derived.Test.YtoccklhfiojemaaDoorRows
import Derived.Test.YtoccklhfiojemaaDoorFr
import Derived.RegionTactic
namespace Go.Proofs.YtoccklhfiojemaaDoor
set_option maxRecDepth 100000
open Go.RowKit
theorem in_any (n a b : Int) (w : World) :
    Calls Tryd.prog 47 #[.int .i64 n, .int .i64 a, .int .i64 b] w fun e w' => e = .returned (.bool (inB n a b)) ∧ w = w' := by
  by_cases h1 : a ≤ n
  · by_cases h2 : n ≤ b
    · go_enter Tryd.func47, Tryd.ntmps47
      go_wp2
      go_ret
      exact ⟨ret_bool (by rw [inB_iff.2 ⟨h1, h2⟩]), rfl⟩
    · go_enter Tryd.func47, Tryd.ntmps47
      go_wp2
      go_ret
      exact ⟨ret_bool (by rw [inB_false.2 (by omega)]), rfl⟩
  · go_enter Tryd.func47, Tryd.ntmps47
    go_wp2
    go_ret
    exact ⟨ret_bool (by rw [inB_false.2 (by omega)]), rfl⟩
end Go.Proofs.YtoccklhfiojemaaDoor
