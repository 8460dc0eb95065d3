/- A key, read as data: an int16 and two int8. -/
import Derived.Test.YtajlkleoincoeacDoorKey0
import Derived.Deep.Strs
import Derived.Test.YtajlkleoincoeacDoorOpenL
import Derived.OpenShut
import Derived.ProofKit
namespace Go.Proofs.YtajlkleoincoeacDoor
open Go.RowKit Go.ChangeShapes Go.WideShapes Go.Deep
section
variable {H : Type} {enc : TypeId × Value → H} {P : Program} {w : World} {base : Nat} {spare : Nat → Bool} {held : Bool}
theorem elem_key {e u t : TypeId} {f0 f1 f2 : Field} (he : P.underlying e = some (.struct #[f0, f1, f2])) (o0 : f0.offset = 0 ∧ f0.type = t) (o1 : f1.offset = 1 ∧ f1.type = u) (o2 : f2.offset = 2 ∧ f2.type = u) (ht : P.underlying t = some (.int .i16)) (hct : P.cellsOf t = 1) (hu : P.underlying u = some (.int .i8)) (hcu : P.cellsOf u = 1) (n : Nat) (cs : List Value) (y : DataW H × List MemPlace) (hl : cs.length = 3)
    (h : DataW.trod enc P w base spare held n e cs = some y) : ∃ s : Int × Int × Int, cs = eKy.c s ∧ ltK1 s := by
  obtain ⟨y0, y1, y2, m, _, _, h0, h1, h2⟩ := trod_struct3 he h
  rw [o0.1, o0.2, hct] at h0
  rw [o1.1, o1.2, hcu] at h1
  rw [o2.1, o2.2, hcu] at h2
  match cs, hl with
  | [p, q, r], _ =>
    obtain ⟨a, ha, _, wa⟩ := DataW.trod_int ht h0
    obtain ⟨b, hb, _, wb⟩ := DataW.trod_int hu h1
    obtain ⟨c, hc, _, wc⟩ := DataW.trod_int hu h2
    have ea : p = .int .i16 a := by simpa using ha
    have eb : q = .int .i8 b := by simpa using hb
    have ec : r = .int .i8 c := by simpa using hc
    subst ea eb ec
    exact ⟨(a, b, c), rfl, bounds_i16 wa, bounds_i8 wb, bounds_i8 wc⟩
end
end Go.Proofs.YtajlkleoincoeacDoor
