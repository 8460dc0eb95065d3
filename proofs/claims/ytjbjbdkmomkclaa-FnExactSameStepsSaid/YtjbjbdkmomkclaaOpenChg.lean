/- A change, read as data: an int8 and a uint16. -/
import Derived.Test.YtjbjbdkmomkclaaChg0
import Derived.Deep.Strs
import Derived.Test.YtjbjbdkmomkclaaOpenL
import Derived.OpenShut
import Derived.ProofKit
namespace Go.Proofs.Ytjbjbdkmomkclaa
open Go.RowKit Go.ChangeShapes Go.WideShapes Go.Deep
section
variable {H : Type} {enc : TypeId × Value → H} {P : Program} {w : World} {base : Nat} {spare : Nat → Bool} {held : Bool}
theorem elem_chg {e u t : TypeId} {f0 f1 : Field} (he : P.underlying e = some (.struct #[f0, f1])) (o0 : f0.offset = 0 ∧ f0.type = t) (o1 : f1.offset = 1 ∧ f1.type = u) (ht : P.underlying t = some (.int .i8)) (hct : P.cellsOf t = 1) (hu : P.underlying u = some (.int .u16)) (hcu : P.cellsOf u = 1) (n : Nat) (cs : List Value) (y : DataW H × List MemPlace) (hl : cs.length = 2)
    (h : DataW.trod enc P w base spare held n e cs = some y) : ∃ s : Int × Int, cs = eCg.c s ∧ ltCg1 s := by
  obtain ⟨y0, y1, m, _, _, h0, h1⟩ := trod_struct2 he h
  rw [o0.1, o0.2, hct] at h0
  rw [o1.1, o1.2, hcu] at h1
  match cs, hl with
  | [p, q], _ =>
    obtain ⟨a, ha, _, wa⟩ := DataW.trod_int ht h0
    obtain ⟨b, hb, _, wb⟩ := DataW.trod_int hu h1
    have ea : p = .int .i8 a := by simpa using ha
    have eb : q = .int .u16 b := by simpa using hb
    subst ea eb
    have hb2 := bounds_u16 wb
    exact ⟨(a, b), rfl, bounds_i8 wa, hb2.1, by have := hb2.2; omega⟩
end
end Go.Proofs.Ytjbjbdkmomkclaa
