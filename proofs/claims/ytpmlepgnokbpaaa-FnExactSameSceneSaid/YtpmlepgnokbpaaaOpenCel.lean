/- A cel, and a layer, read as data. -/
import Derived.Test.YtpmlepgnokbpaaaLay0
import Derived.Test.YtpmlepgnokbpaaaOpenL
import Derived.Lib.SmallJoins
import Derived.OpenShut
import Derived.ProofKit
import Derived.ChangeSame
namespace Go.Proofs.Ytpmlepgnokbpaaa
open Go.RowKit
set_option linter.unusedVariables false
set_option linter.unusedSimpArgs false
open Go.ChangeShapes Go.WideShapes Go.Deep Go.Joins
section
variable {H : Type} {enc : TypeId × Value → H} {P : Program} {w : World} {base : Nat} {spare : Nat → Bool} {held : Bool}
theorem elem_cel {e a u : TypeId} {f0 f1 : Field} (he : P.underlying e = some (.struct #[f0, f1])) (o0 : f0.offset = 0 ∧ f0.type = a) (o1 : f1.offset = 12 ∧ f1.type = a) (ha : P.underlying a = some (.array 12 u)) (hca : P.cellsOf a = 12) (hu : P.underlying u = some (.int .u16)) (hcu : P.cellsOf u = 1) (n : Nat) (cs : List Value) (y : DataW H × List MemPlace) (hl : cs.length = 24)
    (h : DataW.trod enc P w base spare held n e cs = some y) : ∃ i k : Nat → Nat, cs = (CC i k).toList ∧ (∀ y, i y < 65536) ∧ ∀ y, k y < 65536 := by
  obtain ⟨y0, y1, m, _, _, h0, h1⟩ := trod_struct2 he h
  rw [o0.1, o0.2, hca] at h0
  rw [o1.1, o1.2, hca] at h1
  obtain ⟨i, ei, wi⟩ := elem_fr ha hu hcu _ _ _ (by simp; omega) h0
  obtain ⟨k, ek, wk⟩ := elem_fr ha hu hcu _ _ _ (by simp; omega) h1
  refine ⟨i, k, ?_, wi, wk⟩
  rw [CC_list]
  have e1 : cs = cs.take 12 ++ cs.drop 12 := (List.take_append_drop 12 cs).symm
  rw [List.drop_zero] at ei
  have e2 : cs.drop 12 = (cs.drop 12).take 12 := (List.take_of_length_le (by simp; omega)).symm
  rw [e1, ei, e2, ek]
  rfl
theorem open_cel {r : Reach} {b0 : Nat} {t a u : TypeId} {f0 f1 : Field} {v : Value} {d : DataW H} {p : List MemPlace} (he : P.underlying t = some (.struct #[f0, f1])) (hct : P.cellsOf t = 24) (o0 : f0.offset = 0 ∧ f0.type = a) (o1 : f1.offset = 12 ∧ f1.type = a) (ha : P.underlying a = some (.array 12 u)) (hca : P.cellsOf a = 12) (hu : P.underlying u = some (.int .u16)) (hcu : P.cellsOf u = 1)
    (hv : Value.okWide P w r b0 t v) (h : DataW.Trod enc P w base spare held t v d p) : ∃ i k : Nat → Nat, v = .agg (CC i k) ∧ (∀ y, i y < 65536) ∧ ∀ y, k y < 65536 := by
  unfold Value.okWide at hv
  rw [he] at hv
  obtain ⟨cs, rfl, hsz, _⟩ := hv
  rw [hct] at hsz
  obtain ⟨fuel, hf⟩ := h
  obtain ⟨i, k, e, wi, wk⟩ := elem_cel he o0 o1 ha hca hu hcu _ _ _ (by simp [Value.cells, hsz]) hf
  exact ⟨i, k, by rw [Array.toList_inj.1 (show cs.toList = (CC i k).toList from e)], wi, wk⟩
theorem elem_lay {e c a u b : TypeId} {f0 f1 f2 f3 g0 g1 : Field} (he : P.underlying e = some (.struct #[f0, f1, f2, f3])) (o0 : f0.offset = 0 ∧ f0.type = c) (o1 : f1.offset = 24 ∧ f1.type = b) (o2 : f2.offset = 25 ∧ f2.type = b) (o3 : f3.offset = 26 ∧ f3.type = b)
    (hc : P.underlying c = some (.struct #[g0, g1])) (hcc : P.cellsOf c = 24) (q0 : g0.offset = 0 ∧ g0.type = a) (q1 : g1.offset = 12 ∧ g1.type = a) (ha : P.underlying a = some (.array 12 u)) (hca : P.cellsOf a = 12) (hu : P.underlying u = some (.int .u16)) (hcu : P.cellsOf u = 1) (hb : P.underlying b = some (.int .i8)) (hcb : P.cellsOf b = 1) (n : Nat) (cs : List Value) (y : DataW H × List MemPlace) (hl : cs.length = 27)
    (h : DataW.trod enc P w base spare held n e cs = some y) : ∃ l : Ly, cs = eLy.c l ∧ ltLy1 l := by
  obtain ⟨y0, y1, y2, y3, m, _, _, h0, h1, h2, h3⟩ := trod_struct4 he h
  rw [o0.1, o0.2, hcc] at h0
  rw [o1.1, o1.2, hcb] at h1
  rw [o2.1, o2.2, hcb] at h2
  rw [o3.1, o3.2, hcb] at h3
  obtain ⟨i, k, ei, wi, wk⟩ := elem_cel hc q0 q1 ha hca hu hcu _ _ _ (by simp; omega) h0
  obtain ⟨x1, e1, _, w1⟩ := DataW.trod_int hb h1
  obtain ⟨x2, e2, _, w2⟩ := DataW.trod_int hb h2
  obtain ⟨x3, e3, _, w3⟩ := DataW.trod_int hb h3
  refine ⟨⟨i, k, x1, x2, x3⟩, ?_, wi, wk, bounds_i8 w1, bounds_i8 w2, bounds_i8 w3⟩
  show cs = (LC _).toList
  rw [LC_list]
  rw [List.drop_zero] at ei
  have d0 : cs = cs.take 24 ++ cs.drop 24 := (List.take_append_drop 24 cs).symm
  have d1 : cs.drop 24 = (cs.drop 24).take 1 ++ ((cs.drop 25).take 1 ++ (cs.drop 26).take 1) := by
    rw [List.take_of_length_le (l := cs.drop 26) (by simp; omega), show cs.drop 26 = (cs.drop 25).drop 1 by rw [List.drop_drop], List.take_append_drop, show cs.drop 25 = (cs.drop 24).drop 1 by rw [List.drop_drop], List.take_append_drop]
  rw [d0, ei, d1, e1, e2, e3]
  rfl
theorem open_lay {r : Reach} {b0 : Nat} {t c a u b : TypeId} {f0 f1 f2 f3 g0 g1 : Field} {v : Value} {d : DataW H} {p : List MemPlace} (he : P.underlying t = some (.struct #[f0, f1, f2, f3])) (hct : P.cellsOf t = 27) (o0 : f0.offset = 0 ∧ f0.type = c) (o1 : f1.offset = 24 ∧ f1.type = b) (o2 : f2.offset = 25 ∧ f2.type = b) (o3 : f3.offset = 26 ∧ f3.type = b)
    (hc : P.underlying c = some (.struct #[g0, g1])) (hcc : P.cellsOf c = 24) (q0 : g0.offset = 0 ∧ g0.type = a) (q1 : g1.offset = 12 ∧ g1.type = a) (ha : P.underlying a = some (.array 12 u)) (hca : P.cellsOf a = 12) (hu : P.underlying u = some (.int .u16)) (hcu : P.cellsOf u = 1) (hb : P.underlying b = some (.int .i8)) (hcb : P.cellsOf b = 1)
    (hv : Value.okWide P w r b0 t v) (h : DataW.Trod enc P w base spare held t v d p) : ∃ l : Ly, v = .agg (LC l) ∧ ltLy1 l := by
  unfold Value.okWide at hv
  rw [he] at hv
  obtain ⟨cs, rfl, hsz, _⟩ := hv
  rw [hct] at hsz
  obtain ⟨fuel, hf⟩ := h
  obtain ⟨l, e, wl⟩ := elem_lay he o0 o1 o2 o3 hc hcc q0 q1 ha hca hu hcu hb hcb _ _ _ (by simp [Value.cells, hsz]) hf
  exact ⟨l, by rw [Array.toList_inj.1 (show cs.toList = (LC l).toList from e)], wl⟩
end
end Go.Proofs.Ytpmlepgnokbpaaa
