/- THE TABLE OF KINDS of steps: what each base costs. Out of what is laid. -/
import Derived.Test.YtjbjbdkmomkclaaDoorRows
import Derived.Test.YtjbjbdkmomkclaaDoorTab
import Derived.Deep.Strs
import Derived.OpenShut
import Derived.ProofKit
namespace Go.Proofs.YtjbjbdkmomkclaaDoor
open Go.RowKit Go.ChangeShapes Go.WideShapes Go.Deep
set_option linter.unusedVariables false
def Kd (w : World) : Prop := ∃ cs : Array Value, Tab w 0 cs ∧ cs[2]? = some (.int .i64 1) ∧ cs[5]? = some (.int .i64 2) ∧ cs[8]? = some (.int .i64 4)
theorem Kd.below {w w' : World} (h : Kd w) (hb : Below w.heap.size w w') : Kd w' := by
  obtain ⟨cs, ht, h⟩ := h
  exact ⟨cs, ht.below hb ht.lt, h⟩
theorem Kd.cells {w : World} (h : Kd w) : w.cell? ⟨0, 2, none⟩ = some (.int .i64 1) ∧ w.cell? ⟨0, 5, none⟩ = some (.int .i64 2) ∧ w.cell? ⟨0, 8, none⟩ = some (.int .i64 4) := by
  obtain ⟨cs, ht, h0, h1, h2⟩ := h
  exact ⟨(ht.cell 2).trans h0, (ht.cell 5).trans h1, (ht.cell 8).trans h2⟩
section
variable {H : Type} {enc : TypeId × Value → H} {P : Program} {w : World} {base : Nat} {sp : Nat → Bool} {held : Bool}
theorem cost_of_kind {fuel : Nat} {e u : TypeId} {f0 f1 f2 : Field} {cs : List Value} {a b : DataW H} {c : Int} {p : List MemPlace} (he : P.underlying e = some (.struct #[f0, f1, f2])) (o2 : f2.offset = 2 ∧ f2.type = u) (hu : P.underlying u = some (.int .i64)) (hcu : P.cellsOf u = 1)
    (h : DataW.trod enc P w base sp held fuel e cs = some (.agg [a, b, .lit (.int .i64 c)], p)) : cs[2]? = some (.int .i64 c) := by
  obtain ⟨y0, y1, y2, m, hx, _, _, _, h2⟩ := trod_struct3 he h
  rw [o2.1, o2.2, hcu] at h2
  have e2 : y2.1 = .lit (.int .i64 c) := by
    have := congrArg Prod.fst hx
    simp only [DataW.agg.injEq, List.cons.injEq, and_true] at this
    exact this.2.2.symm
  obtain ⟨n, hn, hy, _⟩ := DataW.trod_int hu h2
  rw [hy] at e2
  simp only [DataW.lit.injEq, Lit.int.injEq, true_and] at e2
  subst e2
  have h0 : ((cs.drop 2).take 1)[0]? = some (.int .i64 n) := by rw [hn]; rfl
  simpa [List.getElem?_take, List.getElem?_drop] using h0
theorem costs_of_kinds {fuel : Nat} {t e u : TypeId} {f0 f1 f2 : Field} {cs : List Value} {a0 b0 a1 b1 a2 b2 : DataW H} {c0 c1 c2 : Int} {p : List MemPlace} (ht : P.underlying t = some (.array 3 e)) (he : P.underlying e = some (.struct #[f0, f1, f2])) (o2 : f2.offset = 2 ∧ f2.type = u) (hu : P.underlying u = some (.int .i64)) (hcu : P.cellsOf u = 1) (hce : P.cellsOf e = 3)
    (h : DataW.trod enc P w base sp held fuel t cs = some (.agg [.agg [a0, b0, .lit (.int .i64 c0)], .agg [a1, b1, .lit (.int .i64 c1)], .agg [a2, b2, .lit (.int .i64 c2)]], p)) :
    cs[2]? = some (.int .i64 c0) ∧ cs[5]? = some (.int .i64 c1) ∧ cs[8]? = some (.int .i64 c2) := by
  obtain ⟨xs, m, _, hx, hcl, hxl, hg⟩ := DataW.trod_array ht h
  have hxs : xs.map (·.1) = [.agg [a0, b0, .lit (.int .i64 c0)], .agg [a1, b1, .lit (.int .i64 c1)], .agg [a2, b2, .lit (.int .i64 c2)]] := by
    obtain ⟨h1, _⟩ := Prod.mk.inj hx
    injection h1 with h1
    exact h1.symm
  match xs, hxl, hxs, hg with
  | [x0, x1, x2], _, hxs, hg =>
    simp only [List.map_cons, List.map_nil, List.cons.injEq, and_true] at hxs
    obtain ⟨e0, e1, e2⟩ := hxs
    rw [hce] at hg
    have one : ∀ (i : Nat) (x : DataW H × List MemPlace) (a b : DataW H) (c : Int), i < 3 → [x0, x1, x2][i]? = some x → x.1 = .agg [a, b, .lit (.int .i64 c)] → cs[i * 3 + 2]? = some (.int .i64 c) := by
      intro i x a b c hi hxi hz
      have h1 := hg i hi
      rw [hxi] at h1
      obtain ⟨x1, x2⟩ := x
      cases hz
      have h2 := cost_of_kind he o2 hu hcu h1
      simpa [List.getElem?_take, List.getElem?_drop] using h2
    exact ⟨one 0 x0 _ _ _ (by omega) rfl e0, one 1 x1 _ _ _ (by omega) rfl e1, one 2 x2 _ _ _ (by omega) rfl e2⟩
end
theorem kinds_of {W : World} {ps : List MemPlace} {l : List (String × DataW Unit)} {a0 b0 a1 b1 a2 b2 : DataW Unit} (h : DataW.LaidVars Tryd.prog W l ps)
    (hm : ("loop.example/g01340/impl.kinds", DataW.agg [.agg [a0, b0, .lit (.int .i64 1)], .agg [a1, b1, .lit (.int .i64 2)], .agg [a2, b2, .lit (.int .i64 4)]]) ∈ l) : Kd W := by
  obtain ⟨g, t, cs, fuel, p, h1, h2, h3, h4⟩ := laid_var h hm
  obtain rfl := Option.some.inj ((show Tryd.prog.globalNamed "loop.example/g01340/impl.kinds" = some 0 by kernel_rfl).symm.trans h1)
  obtain rfl := Option.some.inj ((show (Tryd.prog.globals[0]?).map (·.type) = some 87 by kernel_rfl).symm.trans h2)
  have hc := costs_of_kinds Tryd.underlying87 Tryd.underlying86 ⟨rfl, rfl⟩ Tryd.underlying2 (by kernel_rfl) (by kernel_rfl) h4
  simp only [Array.getElem?_toList] at hc
  exact ⟨cs, tab_of_var h1 h3, hc⟩
theorem trodVars_lenK {H : Type} {enc : TypeId × Value → H} {P : Program} {w : World} {spare : Nat → Bool} : ∀ {ns : List String} {gs : List (DataW H)} {ps : List MemPlace}, DataW.TrodVars enc P w spare ns gs ps → gs.length = ns.length
  | [], [], _, _ => rfl
  | [], _ :: _, _, h => h.elim
  | _ :: _, [], _, h => h.elim
  | n :: ns, d :: ds, ps, h => by
    obtain ⟨g, t, cs, fuel, p, q, h1, h2, h3, h4, hs, e⟩ := h
    simp [trodVars_lenK hs]
theorem one_of {α : Type} {l : List α} (h : l.length = 1) : ∃ a, l = [a] := List.length_eq_one_iff.1 h
end Go.Proofs.YtjbjbdkmomkclaaDoor
