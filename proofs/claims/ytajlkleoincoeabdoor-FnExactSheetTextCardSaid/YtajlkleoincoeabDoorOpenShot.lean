/- A shot, read as data: two int8. -/
import Derived.Test.YtajlkleoincoeabDoorSheet
import Derived.Test.YtajlkleoincoeabDoorOpenL
import Derived.OpenShut
import Derived.ProofKit
namespace Go.Proofs.YtajlkleoincoeabDoor
open Go.RowKit Go.ChangeShapes Go.WideShapes Go.Deep
section
variable {H : Type} {enc : TypeId × Value → H} {P : Program} {w : World} {base : Nat} {spare : Nat → Bool} {held : Bool}
theorem elem_shot {e u : TypeId} {f0 f1 : Field} (he : P.underlying e = some (.struct #[f0, f1])) (o0 : f0.offset = 0 ∧ f0.type = u) (o1 : f1.offset = 1 ∧ f1.type = u) (hu : P.underlying u = some (.int .i8)) (hcu : P.cellsOf u = 1) (n : Nat) (cs : List Value) (y : DataW H × List MemPlace) (hl : cs.length = 2)
    (h : DataW.trod enc P w base spare held n e cs = some y) : ∃ s : Int × Int, cs = eSh.c s ∧ lt8 s := by
  obtain ⟨y0, y1, m, _, _, h0, h1⟩ := trod_struct2 he h
  rw [o0.1, o0.2, hcu] at h0
  rw [o1.1, o1.2, hcu] at h1
  match cs, hl with
  | [p, q], _ =>
    obtain ⟨a, ha, _, wa⟩ := DataW.trod_int hu h0
    obtain ⟨b, hb, _, wb⟩ := DataW.trod_int hu h1
    have ea : p = .int .i8 a := by simpa using ha
    have eb : q = .int .i8 b := by simpa using hb
    subst ea eb
    exact ⟨(a, b), rfl, bounds_i8 wa, bounds_i8 wb⟩
end
end Go.Proofs.YtajlkleoincoeabDoor
