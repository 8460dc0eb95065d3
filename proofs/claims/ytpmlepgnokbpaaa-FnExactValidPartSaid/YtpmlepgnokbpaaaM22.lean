import Derived.Test.YtpmlepgnokbpaaaM2
import Derived.Deep.Slices
import Derived.Deep.Fields
import Derived.ChangeSame
import Derived.Test.YtpmlepgnokbpaaaM4
import Derived.Deep.Strs
import Derived.OpenShut
import Derived.ProofKit
import Derived.Test.YtpmlepgnokbpaaaM5
import Derived.Lib.SmallJoins
/- AN ARGUMENT THAT IS A SLICE, opened as a list, whatever its elements (runs of cells of one length). Plain lemmas: no function of the program is named. -/
namespace Go.Proofs.Ytpmlepgnokbpaaa
open Go.RowKit Go.ChangeShapes Go.WideShapes Go.Deep
section
variable {H : Type} {enc : TypeId × Value → H} {P : Program} {w : World} {base : Nat} {spare : Nat → Bool} {held : Bool}
theorem spot_none {w : World} {a : Addr} {v : Value} (h : w.cell? a = some v) : a.spot = none := by
  unfold World.cell? at h
  split at h
  · split at h
    · cases h
    · rename_i hs; simpa using hs
  · cases h
theorem list_of {α : Type} [Inhabited α] {p : Nat → α → Prop} {n : Nat} (h : ∀ i, i < n → ∃ x, p i x) : ∃ L : List α, L.length = n ∧ ∀ i x, L[i]? = some x → p i x := by
  induction n with
  | zero => exact ⟨[], rfl, by simp⟩
  | succ n ih =>
    obtain ⟨L, hl, hp⟩ := ih (fun i hi => h i (by omega))
    obtain ⟨x, hx⟩ := h n (by omega)
    refine ⟨L ++ [x], by simp [hl], fun i y hy => ?_⟩
    rcases Nat.lt_or_ge i L.length with hi | hi
    · rw [List.getElem?_append_left hi] at hy; exact hp i y hy
    · have hlt : i < (L ++ [x]).length := (List.getElem?_eq_some_iff.1 hy).1
      have : i = n := by simp at hlt; omega
      subst this
      rw [List.getElem?_append_right hi, hl] at hy
      simp at hy
      subst hy; exact hx
theorem cells_of_all {α : Type} {E : Enc α} {w : World} {b : Nat} : ∀ (L : List α) (o : Nat), (∀ i x, L[i]? = some x → w.rangeAt b (o + i * E.n) (E.c x)) → w.rangeAt b o (E.cells L)
  | [], o, _ => fun j v hv => by simp [Enc.cells] at hv
  | x :: L, o, h => fun j v hv => by
    rw [Enc.cells_cons] at hv
    rcases Nat.lt_or_ge j E.n with hj | hj
    · rw [List.getElem?_append_left (by rw [E.len]; exact hj)] at hv
      have := h 0 x rfl j v hv
      simpa using this
    · rw [List.getElem?_append_right (by rw [E.len]; exact hj), E.len] at hv
      have := cells_of_all (E := E) (w := w) (b := b) L (o + E.n) (fun i y hy => by
        have := h (i + 1) y (by simpa using hy)
        rwa [show o + (i + 1) * E.n = o + E.n + i * E.n by rw [Nat.succ_mul]; omega] at this) (j - E.n) v hv
      rwa [show o + E.n + (j - E.n) = o + j by omega] at this
theorem open_list {α : Type} [Inhabited α] {E : Enc α} (ok : α → Prop) {t e : TypeId} {v : Value} {d : DataW H} {p : List MemPlace} (ht : P.underlying t = some (.slice e)) (hC : P.cellsOf e = E.n) (hE : 0 < E.n)
    (helem : ∀ (n : Nat) (cs : List Value) (y : DataW H × List MemPlace), cs.length = E.n → DataW.trod enc P w base spare held n e cs = some y → ∃ x, cs = E.c x ∧ ok x)
    (hv : ∃ cs, v.cells = cs ∧ cs.toList = [v]) (h : DataW.Trod enc P w base spare held t v d p) : ∃ L : List α, SlAt E w w.heap.size v L ∧ ∀ x ∈ L, ok x := by
  obtain ⟨fuel, hf⟩ := h
  obtain ⟨cs, hcs, hcl⟩ := hv
  rw [hcs, hcl] at hf
  rcases open_slice ht hf with ⟨h0, _⟩ | ⟨a, len, cap, m, n, D, Pl, hc, _, hl, hm, hmm, _, hi⟩
  · obtain rfl : v = .slice none 0 0 := by simpa using h0
    exact ⟨[], SlAt.nil_ (Nat.zero_le _) _, by simp⟩
  · obtain rfl : v = .slice (some a) len cap := by simpa using hc
    have hml : len ≤ m := by rw [hmm]; split <;> omega
    obtain ⟨L, hL, hp⟩ := list_of (α := α) (n := len) (p := fun i x => ok x ∧ ∀ j u, (E.c x)[j]? = some u → w.cell? ((a.add (i * E.n)).add j) = some u) (fun i hil => by
      obtain ⟨cs', h1, h2⟩ := hi i (by omega)
      rw [hC] at h1
      obtain ⟨_, h3, h4⟩ := World.cells?_some h1
      obtain ⟨x, rfl, hx⟩ := helem n cs' _ h3 h2
      refine ⟨x, hx, fun j u hu => ?_⟩
      have hj : j < E.n := by have := (List.getElem?_eq_some_iff.1 hu).1; rw [E.len] at this; exact this
      rw [h4 j hj, hu])
    refine ⟨L, ⟨some a, cap, by rw [hL], by omega, hm, fun hpos => ?_⟩, fun x hx => ?_⟩
    · have h0 : L[0]? = some L[0] := List.getElem?_eq_getElem (by omega)
      have hc0 : (E.c L[0])[0]? = some ((E.c L[0])[0]'(by rw [E.len]; exact hE)) := List.getElem?_eq_getElem _
      have hs := (hp 0 _ h0).2 0 _ hc0
      have hsp : a.spot = none := by
        have := spot_none hs
        rw [Nat.zero_mul] at this
        simpa [Addr.add] using this
      obtain ⟨b, o, sp⟩ := a
      obtain rfl : sp = none := hsp
      refine ⟨b, o, rfl, ?_, cells_of_all L o fun i x hx j u hu => ?_⟩
      · have := World.block_lt_of_cell? w _ hs
        rw [Addr.add_mid, Addr.add_mid] at this
        exact this
      · have := (hp i x hx).2 j u hu
        rwa [Addr.add_mid, Addr.add_mid] at this
    · obtain ⟨i, hi'⟩ := List.getElem?_of_mem hx
      exact (hp i x hi').1
/-- A frame's cells, read as data. -/
theorem elem_fr {e u : TypeId} (he : P.underlying e = some (.array 12 u)) (hu : P.underlying u = some (.int .u16)) (hcu : P.cellsOf u = 1) (n : Nat) (cs : List Value) (y : DataW H × List MemPlace) (hl : cs.length = 12)
    (h : DataW.trod enc P w base spare held n e cs = some y) : ∃ f : Nat → Nat, cs = eFr.c f ∧ ∀ k, f k < 65536 := by
  obtain ⟨xs, m, _, _, _, hxl, hx⟩ := DataW.trod_array he h
  rw [hcu] at hx
  have hc : ∀ i, i < 12 → ∃ n : Nat, n < 65536 ∧ cs[i]? = some (.int .u16 n) := by
    intro i hi
    have h1 := hx i hi
    rw [List.getElem?_eq_getElem (by omega)] at h1
    obtain ⟨n, hn, _, hw⟩ := DataW.trod_int hu h1
    have hb := bounds_u16 hw
    obtain ⟨k, rfl⟩ := Int.eq_ofNat_of_zero_le hb.1
    refine ⟨k, by omega, ?_⟩
    have hh : ((cs.drop (i * 1)).take 1)[0]? = some (.int .u16 (k : Int)) := by rw [hn]; rfl
    simpa [List.getElem?_take, List.getElem?_drop] using hh
  refine ⟨rowOf cs.toArray, ?_, ?_⟩
  · apply List.ext_getElem?
    intro i
    by_cases hi : i < 12
    · obtain ⟨n, _, hn⟩ := hc i hi
      have h2 : (FC (rowOf cs.toArray)).toList[i]? = some (.int .u16 (rowOf cs.toArray i)) := by rw [Array.getElem?_toList]; exact FC_get _ hi
      rw [hn]
      refine Eq.trans ?_ h2.symm
      simp [rowOf, hn]
    · rw [List.getElem?_eq_none (by omega), List.getElem?_eq_none]
      show (FC _).toList.length ≤ i
      rw [Array.length_toList, FC_size]; omega
  · intro k
    by_cases hk : k < 12
    · obtain ⟨n, hn, he⟩ := hc k hk
      simp [rowOf, he]; exact hn
    · have : cs[k]? = none := List.getElem?_eq_none (by omega)
      simp [rowOf, this]
end
end Go.Proofs.Ytpmlepgnokbpaaa

/- A key, read as data: an int16 and two int8. -/
namespace Go.Proofs.Ytpmlepgnokbpaaa
open Go.RowKit Go.ChangeShapes Go.WideShapes Go.Deep
section
variable {H : Type} {enc : TypeId × Value → H} {P : Program} {w : World} {base : Nat} {spare : Nat → Bool} {held : Bool}
theorem elem_key {e u t : TypeId} {f0 f1 f2 : Field} (he : P.underlying e = some (.struct #[f0, f1, f2])) (o0 : f0.offset = 0 ∧ f0.type = t) (o1 : f1.offset = 1 ∧ f1.type = u) (o2 : f2.offset = 2 ∧ f2.type = u) (ht : P.underlying t = some (.int .i16)) (hct : P.cellsOf t = 1) (hu : P.underlying u = some (.int .i8)) (hcu : P.cellsOf u = 1) (n : Nat) (cs : List Value) (y : DataW H × List MemPlace) (hl : cs.length = 3)
    (h : DataW.trod enc P w base spare held n e cs = some y) : ∃ s : Int × Int × Int, cs = eKy.c s ∧ ltK1 s := by
  obtain ⟨y0, y1, y2, m, _, _, h0, h1, h2⟩ := trod_struct3 he h
  rw [o0.1, o0.2, hct] at h0
  rw [o1.1, o1.2, hcu] at h1
  rw [o2.1, o2.2, hcu] at h2
  match cs, hl with
  | [p, q, r], _ =>
    obtain ⟨a, ha, _, wa⟩ := DataW.trod_int ht h0
    obtain ⟨b, hb, _, wb⟩ := DataW.trod_int hu h1
    obtain ⟨c, hc, _, wc⟩ := DataW.trod_int hu h2
    have ea : p = .int .i16 a := by simpa using ha
    have eb : q = .int .i8 b := by simpa using hb
    have ec : r = .int .i8 c := by simpa using hc
    subst ea eb ec
    exact ⟨(a, b, c), rfl, bounds_i16 wa, bounds_i8 wb, bounds_i8 wc⟩
end
end Go.Proofs.Ytpmlepgnokbpaaa

/- A part, read as data. -/
namespace Go.Proofs.Ytpmlepgnokbpaaa
open Go.RowKit
set_option linter.unusedVariables false
set_option linter.unusedSimpArgs false
open Go.ChangeShapes Go.WideShapes Go.Deep Go.Joins
section
variable {H : Type} {enc : TypeId × Value → H} {P : Program} {w : World} {base : Nat} {spare : Nat → Bool} {held : Bool}
theorem open_part {r : Reach} {b0 : Nat} {t a u b s e : TypeId} {f0 f1 f2 : Field} {v : Value} {d : DataW H} {p : List MemPlace} (he : P.underlying t = some (.struct #[f0, f1, f2])) (hct : P.cellsOf t = 14) (o0 : f0.offset = 0 ∧ f0.type = a) (o1 : f1.offset = 12 ∧ f1.type = b) (o2 : f2.offset = 13 ∧ f2.type = s)
    (ha : P.underlying a = some (.array 12 u)) (hca : P.cellsOf a = 12) (hu : P.underlying u = some (.int .u16)) (hcu : P.cellsOf u = 1) (hb : P.underlying b = some (.int .i8)) (hcb : P.cellsOf b = 1) (hs : P.underlying s = some (.slice e)) (hcs : P.cellsOf s = 1) (hC : P.cellsOf e = eKy.n)
    (helem : ∀ (n : Nat) (cs : List Value) (y : DataW H × List MemPlace), cs.length = eKy.n → DataW.trod enc P w base spare held n e cs = some y → ∃ x, cs = eKy.c x ∧ ltK1 x)
    (hv : Value.okWide P w r b0 t v) (h : DataW.Trod enc P w base spare held t v d p) : ∃ (f : Nat → Nat) (x : Int) (z : Value) (L : List (Int × Int × Int)), v = .agg (PC f x z) ∧ (∀ y, f y < 65536) ∧ (-128 ≤ x ∧ x ≤ 127) ∧ SlAt eKy w w.heap.size z L ∧ ∀ k ∈ L, ltK1 k := by
  unfold Value.okWide at hv
  rw [he] at hv
  obtain ⟨cs, rfl, hsz, _⟩ := hv
  rw [hct] at hsz
  obtain ⟨fuel, hf⟩ := h
  have hl : cs.toList.length = 14 := by simp [hsz]
  have hf' : DataW.trod enc P w base spare held fuel t cs.toList = some (d, p) := hf
  obtain ⟨y0, y1, y2, m, _, _, h0, h1, h2⟩ := trod_struct3 he hf'
  rw [o0.1, o0.2, hca] at h0
  rw [o1.1, o1.2, hcb] at h1
  rw [o2.1, o2.2, hcs] at h2
  obtain ⟨f, ef, wf⟩ := elem_fr ha hu hcu _ _ _ (by simp; omega) h0
  obtain ⟨x, ex, _, wx⟩ := DataW.trod_int hb h1
  have hq : ∃ q, (cs.toList.drop 13).take 1 = [q] := by
    have : ((cs.toList.drop 13).take 1).length = 1 := by simp; omega
    exact List.length_eq_one_iff.1 this
  obtain ⟨q, eq⟩ := hq
  rw [eq] at h2
  have hz : ∃ A n c, q = .slice A n c := by
    rcases open_slice hs h2 with ⟨h0, _⟩ | ⟨a, len, cap, m, n, D, Pl, hc, _⟩
    · exact ⟨_, _, _, by simpa using h0⟩
    · exact ⟨_, _, _, by simpa using hc⟩
  obtain ⟨A, n, c, rfl⟩ := hz
  obtain ⟨L, sl, hL⟩ := open_list (E := eKy) (v := .slice A n c) ltK1 hs hC (by decide) helem ⟨_, rfl, rfl⟩ ⟨m, h2⟩
  refine ⟨f, x, _, L, ?_, wf, bounds_i8 wx, sl, hL⟩
  have e2 : cs.toList = (PC f x (.slice A n c)).toList := by
    rw [PC_list]
    rw [List.drop_zero] at ef
    have d0 : cs.toList = cs.toList.take 12 ++ cs.toList.drop 12 := (List.take_append_drop 12 _).symm
    have d1 : cs.toList.drop 12 = (cs.toList.drop 12).take 1 ++ (cs.toList.drop 13).take 1 := by
      rw [List.take_of_length_le (l := cs.toList.drop 13) (by simp; omega), show cs.toList.drop 13 = (cs.toList.drop 12).drop 1 by rw [List.drop_drop], List.take_append_drop]
    rw [d0, ef, d1, ex, eq]
    rfl
  rw [Array.toList_inj.1 e2]
end
end Go.Proofs.Ytpmlepgnokbpaaa
