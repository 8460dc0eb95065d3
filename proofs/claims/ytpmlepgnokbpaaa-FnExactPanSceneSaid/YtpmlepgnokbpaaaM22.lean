import Derived.Test.YtpmlepgnokbpaaaM2
import Derived.Deep.Slices
import Derived.Deep.Fields
import Derived.ChangeSame
import Derived.Test.YtpmlepgnokbpaaaM5
import Derived.Lib.SmallJoins
import Derived.OpenShut
import Derived.ProofKit
/- AN ARGUMENT THAT IS A SLICE, opened as a list, whatever its elements (runs of cells of one length). Plain lemmas: no function of the program is named. -/
namespace Go.Proofs.Ytpmlepgnokbpaaa
open Go.RowKit Go.ChangeShapes Go.WideShapes Go.Deep
section
variable {H : Type} {enc : TypeId × Value → H} {P : Program} {w : World} {base : Nat} {spare : Nat → Bool} {held : Bool}
theorem spot_none {w : World} {a : Addr} {v : Value} (h : w.cell? a = some v) : a.spot = none := by
  unfold World.cell? at h
  split at h
  · split at h
    · cases h
    · rename_i hs; simpa using hs
  · cases h
theorem list_of {α : Type} [Inhabited α] {p : Nat → α → Prop} {n : Nat} (h : ∀ i, i < n → ∃ x, p i x) : ∃ L : List α, L.length = n ∧ ∀ i x, L[i]? = some x → p i x := by
  induction n with
  | zero => exact ⟨[], rfl, by simp⟩
  | succ n ih =>
    obtain ⟨L, hl, hp⟩ := ih (fun i hi => h i (by omega))
    obtain ⟨x, hx⟩ := h n (by omega)
    refine ⟨L ++ [x], by simp [hl], fun i y hy => ?_⟩
    rcases Nat.lt_or_ge i L.length with hi | hi
    · rw [List.getElem?_append_left hi] at hy; exact hp i y hy
    · have hlt : i < (L ++ [x]).length := (List.getElem?_eq_some_iff.1 hy).1
      have : i = n := by simp at hlt; omega
      subst this
      rw [List.getElem?_append_right hi, hl] at hy
      simp at hy
      subst hy; exact hx
theorem cells_of_all {α : Type} {E : Enc α} {w : World} {b : Nat} : ∀ (L : List α) (o : Nat), (∀ i x, L[i]? = some x → w.rangeAt b (o + i * E.n) (E.c x)) → w.rangeAt b o (E.cells L)
  | [], o, _ => fun j v hv => by simp [Enc.cells] at hv
  | x :: L, o, h => fun j v hv => by
    rw [Enc.cells_cons] at hv
    rcases Nat.lt_or_ge j E.n with hj | hj
    · rw [List.getElem?_append_left (by rw [E.len]; exact hj)] at hv
      have := h 0 x rfl j v hv
      simpa using this
    · rw [List.getElem?_append_right (by rw [E.len]; exact hj), E.len] at hv
      have := cells_of_all (E := E) (w := w) (b := b) L (o + E.n) (fun i y hy => by
        have := h (i + 1) y (by simpa using hy)
        rwa [show o + (i + 1) * E.n = o + E.n + i * E.n by rw [Nat.succ_mul]; omega] at this) (j - E.n) v hv
      rwa [show o + E.n + (j - E.n) = o + j by omega] at this
theorem open_list {α : Type} [Inhabited α] {E : Enc α} (ok : α → Prop) {t e : TypeId} {v : Value} {d : DataW H} {p : List MemPlace} (ht : P.underlying t = some (.slice e)) (hC : P.cellsOf e = E.n) (hE : 0 < E.n)
    (helem : ∀ (n : Nat) (cs : List Value) (y : DataW H × List MemPlace), cs.length = E.n → DataW.trod enc P w base spare held n e cs = some y → ∃ x, cs = E.c x ∧ ok x)
    (hv : ∃ cs, v.cells = cs ∧ cs.toList = [v]) (h : DataW.Trod enc P w base spare held t v d p) : ∃ L : List α, SlAt E w w.heap.size v L ∧ ∀ x ∈ L, ok x := by
  obtain ⟨fuel, hf⟩ := h
  obtain ⟨cs, hcs, hcl⟩ := hv
  rw [hcs, hcl] at hf
  rcases open_slice ht hf with ⟨h0, _⟩ | ⟨a, len, cap, m, n, D, Pl, hc, _, hl, hm, hmm, _, hi⟩
  · obtain rfl : v = .slice none 0 0 := by simpa using h0
    exact ⟨[], SlAt.nil_ (Nat.zero_le _) _, by simp⟩
  · obtain rfl : v = .slice (some a) len cap := by simpa using hc
    have hml : len ≤ m := by rw [hmm]; split <;> omega
    obtain ⟨L, hL, hp⟩ := list_of (α := α) (n := len) (p := fun i x => ok x ∧ ∀ j u, (E.c x)[j]? = some u → w.cell? ((a.add (i * E.n)).add j) = some u) (fun i hil => by
      obtain ⟨cs', h1, h2⟩ := hi i (by omega)
      rw [hC] at h1
      obtain ⟨_, h3, h4⟩ := World.cells?_some h1
      obtain ⟨x, rfl, hx⟩ := helem n cs' _ h3 h2
      refine ⟨x, hx, fun j u hu => ?_⟩
      have hj : j < E.n := by have := (List.getElem?_eq_some_iff.1 hu).1; rw [E.len] at this; exact this
      rw [h4 j hj, hu])
    refine ⟨L, ⟨some a, cap, by rw [hL], by omega, hm, fun hpos => ?_⟩, fun x hx => ?_⟩
    · have h0 : L[0]? = some L[0] := List.getElem?_eq_getElem (by omega)
      have hc0 : (E.c L[0])[0]? = some ((E.c L[0])[0]'(by rw [E.len]; exact hE)) := List.getElem?_eq_getElem _
      have hs := (hp 0 _ h0).2 0 _ hc0
      have hsp : a.spot = none := by
        have := spot_none hs
        rw [Nat.zero_mul] at this
        simpa [Addr.add] using this
      obtain ⟨b, o, sp⟩ := a
      obtain rfl : sp = none := hsp
      refine ⟨b, o, rfl, ?_, cells_of_all L o fun i x hx j u hu => ?_⟩
      · have := World.block_lt_of_cell? w _ hs
        rw [Addr.add_mid, Addr.add_mid] at this
        exact this
      · have := (hp i x hx).2 j u hu
        rwa [Addr.add_mid, Addr.add_mid] at this
    · obtain ⟨i, hi'⟩ := List.getElem?_of_mem hx
      exact (hp i x hi').1
/-- A frame's cells, read as data. -/
theorem elem_fr {e u : TypeId} (he : P.underlying e = some (.array 12 u)) (hu : P.underlying u = some (.int .u16)) (hcu : P.cellsOf u = 1) (n : Nat) (cs : List Value) (y : DataW H × List MemPlace) (hl : cs.length = 12)
    (h : DataW.trod enc P w base spare held n e cs = some y) : ∃ f : Nat → Nat, cs = eFr.c f ∧ ∀ k, f k < 65536 := by
  obtain ⟨xs, m, _, _, _, hxl, hx⟩ := DataW.trod_array he h
  rw [hcu] at hx
  have hc : ∀ i, i < 12 → ∃ n : Nat, n < 65536 ∧ cs[i]? = some (.int .u16 n) := by
    intro i hi
    have h1 := hx i hi
    rw [List.getElem?_eq_getElem (by omega)] at h1
    obtain ⟨n, hn, _, hw⟩ := DataW.trod_int hu h1
    have hb := bounds_u16 hw
    obtain ⟨k, rfl⟩ := Int.eq_ofNat_of_zero_le hb.1
    refine ⟨k, by omega, ?_⟩
    have hh : ((cs.drop (i * 1)).take 1)[0]? = some (.int .u16 (k : Int)) := by rw [hn]; rfl
    simpa [List.getElem?_take, List.getElem?_drop] using hh
  refine ⟨rowOf cs.toArray, ?_, ?_⟩
  · apply List.ext_getElem?
    intro i
    by_cases hi : i < 12
    · obtain ⟨n, _, hn⟩ := hc i hi
      have h2 : (FC (rowOf cs.toArray)).toList[i]? = some (.int .u16 (rowOf cs.toArray i)) := by rw [Array.getElem?_toList]; exact FC_get _ hi
      rw [hn]
      refine Eq.trans ?_ h2.symm
      simp [rowOf, hn]
    · rw [List.getElem?_eq_none (by omega), List.getElem?_eq_none]
      show (FC _).toList.length ≤ i
      rw [Array.length_toList, FC_size]; omega
  · intro k
    by_cases hk : k < 12
    · obtain ⟨n, hn, he⟩ := hc k hk
      simp [rowOf, he]; exact hn
    · have : cs[k]? = none := List.getElem?_eq_none (by omega)
      simp [rowOf, this]
end
end Go.Proofs.Ytpmlepgnokbpaaa

/- A cel, and a layer, read as data. -/
namespace Go.Proofs.Ytpmlepgnokbpaaa
open Go.RowKit
set_option linter.unusedVariables false
set_option linter.unusedSimpArgs false
open Go.ChangeShapes Go.WideShapes Go.Deep Go.Joins
section
variable {H : Type} {enc : TypeId × Value → H} {P : Program} {w : World} {base : Nat} {spare : Nat → Bool} {held : Bool}
theorem elem_cel {e a u : TypeId} {f0 f1 : Field} (he : P.underlying e = some (.struct #[f0, f1])) (o0 : f0.offset = 0 ∧ f0.type = a) (o1 : f1.offset = 12 ∧ f1.type = a) (ha : P.underlying a = some (.array 12 u)) (hca : P.cellsOf a = 12) (hu : P.underlying u = some (.int .u16)) (hcu : P.cellsOf u = 1) (n : Nat) (cs : List Value) (y : DataW H × List MemPlace) (hl : cs.length = 24)
    (h : DataW.trod enc P w base spare held n e cs = some y) : ∃ i k : Nat → Nat, cs = (CC i k).toList ∧ (∀ y, i y < 65536) ∧ ∀ y, k y < 65536 := by
  obtain ⟨y0, y1, m, _, _, h0, h1⟩ := trod_struct2 he h
  rw [o0.1, o0.2, hca] at h0
  rw [o1.1, o1.2, hca] at h1
  obtain ⟨i, ei, wi⟩ := elem_fr ha hu hcu _ _ _ (by simp; omega) h0
  obtain ⟨k, ek, wk⟩ := elem_fr ha hu hcu _ _ _ (by simp; omega) h1
  refine ⟨i, k, ?_, wi, wk⟩
  rw [CC_list]
  have e1 : cs = cs.take 12 ++ cs.drop 12 := (List.take_append_drop 12 cs).symm
  rw [List.drop_zero] at ei
  have e2 : cs.drop 12 = (cs.drop 12).take 12 := (List.take_of_length_le (by simp; omega)).symm
  rw [e1, ei, e2, ek]
  rfl
theorem open_cel {r : Reach} {b0 : Nat} {t a u : TypeId} {f0 f1 : Field} {v : Value} {d : DataW H} {p : List MemPlace} (he : P.underlying t = some (.struct #[f0, f1])) (hct : P.cellsOf t = 24) (o0 : f0.offset = 0 ∧ f0.type = a) (o1 : f1.offset = 12 ∧ f1.type = a) (ha : P.underlying a = some (.array 12 u)) (hca : P.cellsOf a = 12) (hu : P.underlying u = some (.int .u16)) (hcu : P.cellsOf u = 1)
    (hv : Value.okWide P w r b0 t v) (h : DataW.Trod enc P w base spare held t v d p) : ∃ i k : Nat → Nat, v = .agg (CC i k) ∧ (∀ y, i y < 65536) ∧ ∀ y, k y < 65536 := by
  unfold Value.okWide at hv
  rw [he] at hv
  obtain ⟨cs, rfl, hsz, _⟩ := hv
  rw [hct] at hsz
  obtain ⟨fuel, hf⟩ := h
  obtain ⟨i, k, e, wi, wk⟩ := elem_cel he o0 o1 ha hca hu hcu _ _ _ (by simp [Value.cells, hsz]) hf
  exact ⟨i, k, by rw [Array.toList_inj.1 (show cs.toList = (CC i k).toList from e)], wi, wk⟩
theorem elem_lay {e c a u b : TypeId} {f0 f1 f2 f3 g0 g1 : Field} (he : P.underlying e = some (.struct #[f0, f1, f2, f3])) (o0 : f0.offset = 0 ∧ f0.type = c) (o1 : f1.offset = 24 ∧ f1.type = b) (o2 : f2.offset = 25 ∧ f2.type = b) (o3 : f3.offset = 26 ∧ f3.type = b)
    (hc : P.underlying c = some (.struct #[g0, g1])) (hcc : P.cellsOf c = 24) (q0 : g0.offset = 0 ∧ g0.type = a) (q1 : g1.offset = 12 ∧ g1.type = a) (ha : P.underlying a = some (.array 12 u)) (hca : P.cellsOf a = 12) (hu : P.underlying u = some (.int .u16)) (hcu : P.cellsOf u = 1) (hb : P.underlying b = some (.int .i8)) (hcb : P.cellsOf b = 1) (n : Nat) (cs : List Value) (y : DataW H × List MemPlace) (hl : cs.length = 27)
    (h : DataW.trod enc P w base spare held n e cs = some y) : ∃ l : Ly, cs = eLy.c l ∧ ltLy1 l := by
  obtain ⟨y0, y1, y2, y3, m, _, _, h0, h1, h2, h3⟩ := trod_struct4 he h
  rw [o0.1, o0.2, hcc] at h0
  rw [o1.1, o1.2, hcb] at h1
  rw [o2.1, o2.2, hcb] at h2
  rw [o3.1, o3.2, hcb] at h3
  obtain ⟨i, k, ei, wi, wk⟩ := elem_cel hc q0 q1 ha hca hu hcu _ _ _ (by simp; omega) h0
  obtain ⟨x1, e1, _, w1⟩ := DataW.trod_int hb h1
  obtain ⟨x2, e2, _, w2⟩ := DataW.trod_int hb h2
  obtain ⟨x3, e3, _, w3⟩ := DataW.trod_int hb h3
  refine ⟨⟨i, k, x1, x2, x3⟩, ?_, wi, wk, bounds_i8 w1, bounds_i8 w2, bounds_i8 w3⟩
  show cs = (LC _).toList
  rw [LC_list]
  rw [List.drop_zero] at ei
  have d0 : cs = cs.take 24 ++ cs.drop 24 := (List.take_append_drop 24 cs).symm
  have d1 : cs.drop 24 = (cs.drop 24).take 1 ++ ((cs.drop 25).take 1 ++ (cs.drop 26).take 1) := by
    rw [List.take_of_length_le (l := cs.drop 26) (by simp; omega), show cs.drop 26 = (cs.drop 25).drop 1 by rw [List.drop_drop], List.take_append_drop, show cs.drop 25 = (cs.drop 24).drop 1 by rw [List.drop_drop], List.take_append_drop]
  rw [d0, ei, d1, e1, e2, e3]
  rfl
theorem open_lay {r : Reach} {b0 : Nat} {t c a u b : TypeId} {f0 f1 f2 f3 g0 g1 : Field} {v : Value} {d : DataW H} {p : List MemPlace} (he : P.underlying t = some (.struct #[f0, f1, f2, f3])) (hct : P.cellsOf t = 27) (o0 : f0.offset = 0 ∧ f0.type = c) (o1 : f1.offset = 24 ∧ f1.type = b) (o2 : f2.offset = 25 ∧ f2.type = b) (o3 : f3.offset = 26 ∧ f3.type = b)
    (hc : P.underlying c = some (.struct #[g0, g1])) (hcc : P.cellsOf c = 24) (q0 : g0.offset = 0 ∧ g0.type = a) (q1 : g1.offset = 12 ∧ g1.type = a) (ha : P.underlying a = some (.array 12 u)) (hca : P.cellsOf a = 12) (hu : P.underlying u = some (.int .u16)) (hcu : P.cellsOf u = 1) (hb : P.underlying b = some (.int .i8)) (hcb : P.cellsOf b = 1)
    (hv : Value.okWide P w r b0 t v) (h : DataW.Trod enc P w base spare held t v d p) : ∃ l : Ly, v = .agg (LC l) ∧ ltLy1 l := by
  unfold Value.okWide at hv
  rw [he] at hv
  obtain ⟨cs, rfl, hsz, _⟩ := hv
  rw [hct] at hsz
  obtain ⟨fuel, hf⟩ := h
  obtain ⟨l, e, wl⟩ := elem_lay he o0 o1 o2 o3 hc hcc q0 q1 ha hca hu hcu hb hcb _ _ _ (by simp [Value.cells, hsz]) hf
  exact ⟨l, by rw [Array.toList_inj.1 (show cs.toList = (LC l).toList from e)], wl⟩
end
end Go.Proofs.Ytpmlepgnokbpaaa
