/- An argument that is a struct of four int8: its fields. -/
import Derived.Test.YtjbjbdkmomkclaaBox
import Derived.Lib.SmallJoins
import Derived.OpenShut
import Derived.ProofKit
namespace Go.Proofs.Ytjbjbdkmomkclaa
open Go.ChangeShapes Go.WideShapes Go.RowKit Go.Joins Go.Deep
section
variable {H : Type} {enc : TypeId × Value → H} {P : Program} {w : World} {base : Nat} {spare : Nat → Bool} {held : Bool}
theorem i8_of_wf {z : Int} (h : (Lit.int .i8 z).wf = true) : i8B z :=
   bounds_i8 h
theorem open_box {r : Reach} {b0 : Nat} {t : TypeId} {f0 f1 f2 f3 : Field} {v : Value} {d : DataW H} {p : List MemPlace} (hs : P.underlying t = some (.struct #[f0, f1, f2, f3])) (hone : oneCellFields P #[f0, f1, f2, f3] = true) (hC : P.cellsOf t = 4)
    (e0 : P.underlying f0.type = some (.int .i8)) (e1 : P.underlying f1.type = some (.int .i8)) (e2 : P.underlying f2.type = some (.int .i8)) (e3 : P.underlying f3.type = some (.int .i8))
    (hv : Value.okWide P w r b0 t v) (h : DataW.Trod enc P w base spare held t v d p) : ∃ x y a b : Int, v = .agg (BX x y a b) ∧ i8B x ∧ i8B y ∧ i8B a ∧ i8B b := by
  obtain ⟨v0, v1, v2, v3, y0, y1, y2, y3, n, rfl, _, _, h0, h1, h2, h3⟩ := open_agg4 hs hone hC hv h
  obtain ⟨n0, q0, _, w0⟩ := DataW.trod_int e0 h0
  obtain ⟨n1, q1, _, w1⟩ := DataW.trod_int e1 h1
  obtain ⟨n2, q2, _, w2⟩ := DataW.trod_int e2 h2
  obtain ⟨n3, q3, _, w3⟩ := DataW.trod_int e3 h3
  cases q0; cases q1; cases q2; cases q3
  exact ⟨n0, n1, n2, n3, rfl, i8_of_wf w0, i8_of_wf w1, i8_of_wf w2, i8_of_wf w3⟩
end
end Go.Proofs.Ytjbjbdkmomkclaa
