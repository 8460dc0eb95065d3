/- An argument that is a slice of bytes, opened as a list. -/
import Derived.Test.YtoccklhfiojemabOpenL
import Derived.OpenShut
import Derived.ProofKit
namespace Go.Proofs.Ytoccklhfiojemab
open Go.RowKit Go.ChangeShapes Go.WideShapes Go.Deep
section
variable {H : Type} {enc : TypeId × Value → H} {P : Program} {w : World} {base : Nat} {spare : Nat → Bool} {held : Bool}
theorem elem_u8 {e : TypeId} (he : P.underlying e = some (.int .u8)) (n : Nat) (cs : List Value) (y : DataW H × List MemPlace) (_ : cs.length = 1)
    (h : DataW.trod enc P w base spare held n e cs = some y) : ∃ z : Int, cs = (eI .u8).c z ∧ (0 ≤ z ∧ z ≤ 255) := by
  obtain ⟨a, ha, _, wa⟩ := DataW.trod_int he h
  exact ⟨a, by simpa [eI] using ha, bounds_u8 wa⟩
end
end Go.Proofs.Ytoccklhfiojemab
