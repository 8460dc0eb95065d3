/- A list of steps, read as data: four int8 and a slice of changes each. -/
import Derived.Test.YtjbjbdkmomkclaaStp0
import Derived.Test.YtjbjbdkmomkclaaOpenL
import Derived.Test.YtjbjbdkmomkclaaOpenChg
import Derived.Lib.SmallJoins
import Derived.OpenShut
import Derived.ProofKit
import Derived.ChangeSame
namespace Go.Proofs.Ytjbjbdkmomkclaa
open Go.RowKit Go.ChangeShapes Go.WideShapes Go.Deep
set_option linter.unusedVariables false
section
variable {H : Type} {enc : TypeId × Value → H} {P : Program} {w : World} {base : Nat} {spare : Nat → Bool} {held : Bool}
theorem trod_struct5 {t : TypeId} {f0 f1 f2 f3 f4 : Field} {fuel : Nat} {cs : List Value} {x : DataW H × List MemPlace} (ht : P.underlying t = some (.struct #[f0, f1, f2, f3, f4])) (h : DataW.trod enc P w base spare held fuel t cs = some x) :
    ∃ y0 y1 y2 y3 y4 n, cs.length = P.cellsOf t ∧ DataW.trod enc P w base spare held n f0.type ((cs.drop f0.offset).take (P.cellsOf f0.type)) = some y0 ∧
      DataW.trod enc P w base spare held n f1.type ((cs.drop f1.offset).take (P.cellsOf f1.type)) = some y1 ∧ DataW.trod enc P w base spare held n f2.type ((cs.drop f2.offset).take (P.cellsOf f2.type)) = some y2 ∧
      DataW.trod enc P w base spare held n f3.type ((cs.drop f3.offset).take (P.cellsOf f3.type)) = some y3 ∧ DataW.trod enc P w base spare held n f4.type ((cs.drop f4.offset).take (P.cellsOf f4.type)) = some y4 := by
  obtain ⟨xs, n, _, rfl, hl, hlen, hf⟩ := DataW.trod_struct ht h
  match xs, hlen with
  | [y0, y1, y2, y3, y4], _ => exact ⟨y0, y1, y2, y3, y4, n, hl, by simpa using hf 0 f0 rfl, by simpa using hf 1 f1 rfl, by simpa using hf 2 f2 rfl, by simpa using hf 3 f3 rfl, by simpa using hf 4 f4 rfl⟩
/-- What a raw step must read as. -/
def okRaw (w : World) (r : Raw) : Prop := ltHd r.1 ∧ ∃ L, SlAt eCg w w.heap.size (rvOf r) L ∧ ltCg L
theorem elem_stp {e t s ec : TypeId} {f0 f1 f2 f3 f4 : Field} (he : P.underlying e = some (.struct #[f0, f1, f2, f3, f4])) (o0 : f0.offset = 0 ∧ f0.type = t) (o1 : f1.offset = 1 ∧ f1.type = t) (o2 : f2.offset = 2 ∧ f2.type = t) (o3 : f3.offset = 3 ∧ f3.type = t) (o4 : f4.offset = 4 ∧ f4.type = s)
    (ht : P.underlying t = some (.int .i8)) (hct : P.cellsOf t = 1) (hs : P.underlying s = some (.slice ec)) (hcs : P.cellsOf s = 1) (hC : P.cellsOf ec = eCg.n)
    (helem : ∀ (n : Nat) (cs : List Value) (y : DataW H × List MemPlace), cs.length = eCg.n → DataW.trod enc P w base spare held n ec cs = some y → ∃ x, cs = eCg.c x ∧ ltCg1 x)
    (n : Nat) (cs : List Value) (y : DataW H × List MemPlace) (hl : cs.length = 5) (h : DataW.trod enc P w base spare held n e cs = some y) : ∃ r : Raw, cs = eSt.c r ∧ okRaw w r := by
  obtain ⟨y0, y1, y2, y3, y4, m, _, h0, h1, h2, h3, h4⟩ := trod_struct5 he h
  rw [o0.1, o0.2, hct] at h0
  rw [o1.1, o1.2, hct] at h1
  rw [o2.1, o2.2, hct] at h2
  rw [o3.1, o3.2, hct] at h3
  rw [o4.1, o4.2, hcs] at h4
  match cs, hl with
  | [p, q, r, s, z], _ =>
    obtain ⟨a, ha, _, wa⟩ := DataW.trod_int ht h0
    obtain ⟨b, hb, _, wb⟩ := DataW.trod_int ht h1
    obtain ⟨c, hc, _, wc⟩ := DataW.trod_int ht h2
    obtain ⟨d, hd, _, wd⟩ := DataW.trod_int ht h3
    have ea : p = .int .i8 a := by simpa using ha
    have eb : q = .int .i8 b := by simpa using hb
    have ec : r = .int .i8 c := by simpa using hc
    have ed : s = .int .i8 d := by simpa using hd
    subst ea eb ec ed
    have h4' : DataW.trod enc P w base spare held m s [z] = some y4 := by simpa using h4
    have hz : ∃ A n c, z = .slice A n c := by
      rcases open_slice hs h4' with ⟨h0, _⟩ | ⟨a, len, cap, m, n, D, Pl, hc, _⟩
      · exact ⟨_, _, _, by simpa using h0⟩
      · exact ⟨_, _, _, by simpa using hc⟩
    obtain ⟨A, n, k, rfl⟩ := hz
    obtain ⟨L, sl, hL⟩ := open_list (E := eCg) (v := .slice A n k) ltCg1 hs hC (by decide) helem ⟨_, rfl, rfl⟩ ⟨m, h4'⟩
    exact ⟨((a, b, c, d), A, n, k), rfl, ⟨bounds_i8 wa, bounds_i8 wb, bounds_i8 wc, bounds_i8 wd⟩, L, sl, hL⟩
theorem open_step {r : Reach} {b0 : Nat} {e t s ec : TypeId} {f0 f1 f2 f3 f4 : Field} {v : Value} {d : DataW H} {p : List MemPlace} (he : P.underlying e = some (.struct #[f0, f1, f2, f3, f4])) (hce : P.cellsOf e = 5) (o0 : f0.offset = 0 ∧ f0.type = t) (o1 : f1.offset = 1 ∧ f1.type = t) (o2 : f2.offset = 2 ∧ f2.type = t) (o3 : f3.offset = 3 ∧ f3.type = t) (o4 : f4.offset = 4 ∧ f4.type = s)
    (ht : P.underlying t = some (.int .i8)) (hct : P.cellsOf t = 1) (hs : P.underlying s = some (.slice ec)) (hcs : P.cellsOf s = 1) (hC : P.cellsOf ec = eCg.n)
    (helem : ∀ (n : Nat) (cs : List Value) (y : DataW H × List MemPlace), cs.length = eCg.n → DataW.trod enc P w base spare held n ec cs = some y → ∃ x, cs = eCg.c x ∧ ltCg1 x)
    (hv : Value.okWide P w r b0 e v) (h : DataW.Trod enc P w base spare held e v d p) : ∃ (hd : Hd) (z : Value) (L : List (Int × Int)), v = .agg (StC hd z) ∧ ltHd hd ∧ SlAt eCg w w.heap.size z L ∧ ltCg L := by
  unfold Value.okWide at hv
  rw [he] at hv
  obtain ⟨cs, rfl, hsz, _⟩ := hv
  rw [hce] at hsz
  obtain ⟨fuel, hf⟩ := h
  have hl : cs.toList.length = 5 := by simp [hsz]
  have hf' : DataW.trod enc P w base spare held fuel e cs.toList = some (d, p) := hf
  obtain ⟨x, hx, h1, L, h2, h3⟩ := elem_stp he o0 o1 o2 o3 o4 ht hct hs hcs hC helem fuel cs.toList _ hl hf'
  refine ⟨x.1, rvOf x, L, ?_, h1, h2, h3⟩
  have e2 : cs.toList = (StC x.1 (rvOf x)).toList := hx
  rw [Array.toList_inj.1 e2]
theorem sts_of_raws {v : Value} {R : List Raw} (hs : SlAt eSt w w.heap.size v R) (hR : ∀ r ∈ R, okRaw w r) : ∃ L : List Stp, StsAt w w.heap.size v L ∧ ltSt L := by
  obtain ⟨L, hl, hp⟩ := list_of (α := Stp) (n := R.length) (p := fun i s => (rAt R i).1 = s.1 ∧ SlAt eCg w w.heap.size (rvOf (rAt R i)) s.2 ∧ ltSt1 s) (fun i hi => by
    obtain ⟨h1, M, h2, h3⟩ := hR (rAt R i) (List.mem_of_getElem? (rAt_get hi))
    exact ⟨((rAt R i).1, M), rfl, h2, h1, h3⟩)
  refine ⟨L, StsAt.of_raw hs hl.symm fun i hi => ?_, fun s hs => ?_⟩
  · have := hp i (tAt L i) (tAt_get hi)
    exact ⟨this.1, this.2.1⟩
  · obtain ⟨i, hi⟩ := List.getElem?_of_mem hs
    exact (hp i s hi).2.2
end
end Go.Proofs.Ytjbjbdkmomkclaa
