/- A stroke, read as data: three int8 and a bool. -/
import Derived.Test.YtjbjbdkmomkclaaStk0
import Derived.Deep.Strs
import Derived.Lib.SmallJoins
import Derived.Test.YtjbjbdkmomkclaaOpenL
import Derived.OpenShut
import Derived.ProofKit
namespace Go.Proofs.Ytjbjbdkmomkclaa
open Go.RowKit Go.ChangeShapes Go.WideShapes Go.Deep Go.Joins
section
variable {H : Type} {enc : TypeId × Value → H} {P : Program} {w : World} {base : Nat} {spare : Nat → Bool} {held : Bool}
theorem elem_stk {e u t : TypeId} {f0 f1 f2 f3 : Field} (he : P.underlying e = some (.struct #[f0, f1, f2, f3])) (o0 : f0.offset = 0 ∧ f0.type = t) (o1 : f1.offset = 1 ∧ f1.type = t) (o2 : f2.offset = 2 ∧ f2.type = t) (o3 : f3.offset = 3 ∧ f3.type = u) (ht : P.underlying t = some (.int .i8)) (hct : P.cellsOf t = 1) (hu : P.underlying u = some .bool) (hcu : P.cellsOf u = 1) (n : Nat) (cs : List Value) (y : DataW H × List MemPlace) (hl : cs.length = 4)
    (h : DataW.trod enc P w base spare held n e cs = some y) : ∃ s : Int × Int × Int × Bool, cs = eSk.c s ∧ ltSk1 s := by
  obtain ⟨y0, y1, y2, y3, m, _, _, h0, h1, h2, h3⟩ := trod_struct4 he h
  rw [o0.1, o0.2, hct] at h0
  rw [o1.1, o1.2, hct] at h1
  rw [o2.1, o2.2, hct] at h2
  rw [o3.1, o3.2, hcu] at h3
  match cs, hl with
  | [p, q, r, s], _ =>
    obtain ⟨a, ha, _, wa⟩ := DataW.trod_int ht h0
    obtain ⟨b, hb, _, wb⟩ := DataW.trod_int ht h1
    obtain ⟨c, hc, _, wc⟩ := DataW.trod_int ht h2
    obtain ⟨d, hd, _⟩ := DataW.trod_bool hu h3
    have ea : p = .int .i8 a := by simpa using ha
    have eb : q = .int .i8 b := by simpa using hb
    have ec : r = .int .i8 c := by simpa using hc
    have ed : s = .bool d := by simpa using hd
    subst ea eb ec ed
    exact ⟨(a, b, c, d), rfl, bounds_i8 wa, bounds_i8 wb, bounds_i8 wc⟩
end
end Go.Proofs.Ytjbjbdkmomkclaa
