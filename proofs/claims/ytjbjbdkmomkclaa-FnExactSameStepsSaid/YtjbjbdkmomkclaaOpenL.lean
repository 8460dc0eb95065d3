/- AN ARGUMENT THAT IS A SLICE, opened as a list, whatever its elements (runs of cells of one length). Plain lemmas: no function of the program is named. -/
import Derived.Test.YtjbjbdkmomkclaaBk
import Derived.Deep.Slices
import Derived.Deep.Fields
import Derived.ChangeSame
namespace Go.Proofs.Ytjbjbdkmomkclaa
open Go.RowKit Go.ChangeShapes Go.WideShapes Go.Deep
section
variable {H : Type} {enc : TypeId × Value → H} {P : Program} {w : World} {base : Nat} {spare : Nat → Bool} {held : Bool}
theorem spot_none {w : World} {a : Addr} {v : Value} (h : w.cell? a = some v) : a.spot = none := by
  unfold World.cell? at h
  split at h
  · split at h
    · cases h
    · rename_i hs; simpa using hs
  · cases h
theorem list_of {α : Type} [Inhabited α] {p : Nat → α → Prop} {n : Nat} (h : ∀ i, i < n → ∃ x, p i x) : ∃ L : List α, L.length = n ∧ ∀ i x, L[i]? = some x → p i x := by
  induction n with
  | zero => exact ⟨[], rfl, by simp⟩
  | succ n ih =>
    obtain ⟨L, hl, hp⟩ := ih (fun i hi => h i (by omega))
    obtain ⟨x, hx⟩ := h n (by omega)
    refine ⟨L ++ [x], by simp [hl], fun i y hy => ?_⟩
    rcases Nat.lt_or_ge i L.length with hi | hi
    · rw [List.getElem?_append_left hi] at hy; exact hp i y hy
    · have hlt : i < (L ++ [x]).length := (List.getElem?_eq_some_iff.1 hy).1
      have : i = n := by simp at hlt; omega
      subst this
      rw [List.getElem?_append_right hi, hl] at hy
      simp at hy
      subst hy; exact hx
theorem cells_of_all {α : Type} {E : Enc α} {w : World} {b : Nat} : ∀ (L : List α) (o : Nat), (∀ i x, L[i]? = some x → w.rangeAt b (o + i * E.n) (E.c x)) → w.rangeAt b o (E.cells L)
  | [], o, _ => fun j v hv => by simp [Enc.cells] at hv
  | x :: L, o, h => fun j v hv => by
    rw [Enc.cells_cons] at hv
    rcases Nat.lt_or_ge j E.n with hj | hj
    · rw [List.getElem?_append_left (by rw [E.len]; exact hj)] at hv
      have := h 0 x rfl j v hv
      simpa using this
    · rw [List.getElem?_append_right (by rw [E.len]; exact hj), E.len] at hv
      have := cells_of_all (E := E) (w := w) (b := b) L (o + E.n) (fun i y hy => by
        have := h (i + 1) y (by simpa using hy)
        rwa [show o + (i + 1) * E.n = o + E.n + i * E.n by rw [Nat.succ_mul]; omega] at this) (j - E.n) v hv
      rwa [show o + E.n + (j - E.n) = o + j by omega] at this
theorem open_list {α : Type} [Inhabited α] {E : Enc α} (ok : α → Prop) {t e : TypeId} {v : Value} {d : DataW H} {p : List MemPlace} (ht : P.underlying t = some (.slice e)) (hC : P.cellsOf e = E.n) (hE : 0 < E.n)
    (helem : ∀ (n : Nat) (cs : List Value) (y : DataW H × List MemPlace), cs.length = E.n → DataW.trod enc P w base spare held n e cs = some y → ∃ x, cs = E.c x ∧ ok x)
    (hv : ∃ cs, v.cells = cs ∧ cs.toList = [v]) (h : DataW.Trod enc P w base spare held t v d p) : ∃ L : List α, SlAt E w w.heap.size v L ∧ ∀ x ∈ L, ok x := by
  obtain ⟨fuel, hf⟩ := h
  obtain ⟨cs, hcs, hcl⟩ := hv
  rw [hcs, hcl] at hf
  rcases open_slice ht hf with ⟨h0, _⟩ | ⟨a, len, cap, m, n, D, Pl, hc, _, hl, hm, hmm, _, hi⟩
  · obtain rfl : v = .slice none 0 0 := by simpa using h0
    exact ⟨[], SlAt.nil_ (Nat.zero_le _) _, by simp⟩
  · obtain rfl : v = .slice (some a) len cap := by simpa using hc
    have hml : len ≤ m := by rw [hmm]; split <;> omega
    obtain ⟨L, hL, hp⟩ := list_of (α := α) (n := len) (p := fun i x => ok x ∧ ∀ j u, (E.c x)[j]? = some u → w.cell? ((a.add (i * E.n)).add j) = some u) (fun i hil => by
      obtain ⟨cs', h1, h2⟩ := hi i (by omega)
      rw [hC] at h1
      obtain ⟨_, h3, h4⟩ := World.cells?_some h1
      obtain ⟨x, rfl, hx⟩ := helem n cs' _ h3 h2
      refine ⟨x, hx, fun j u hu => ?_⟩
      have hj : j < E.n := by have := (List.getElem?_eq_some_iff.1 hu).1; rw [E.len] at this; exact this
      rw [h4 j hj, hu])
    refine ⟨L, ⟨some a, cap, by rw [hL], by omega, hm, fun hpos => ?_⟩, fun x hx => ?_⟩
    · have h0 : L[0]? = some L[0] := List.getElem?_eq_getElem (by omega)
      have hc0 : (E.c L[0])[0]? = some ((E.c L[0])[0]'(by rw [E.len]; exact hE)) := List.getElem?_eq_getElem _
      have hs := (hp 0 _ h0).2 0 _ hc0
      have hsp : a.spot = none := by
        have := spot_none hs
        rw [Nat.zero_mul] at this
        simpa [Addr.add] using this
      obtain ⟨b, o, sp⟩ := a
      obtain rfl : sp = none := hsp
      refine ⟨b, o, rfl, ?_, cells_of_all L o fun i x hx j u hu => ?_⟩
      · have := World.block_lt_of_cell? w _ hs
        rw [Addr.add_mid, Addr.add_mid] at this
        exact this
      · have := (hp i x hx).2 j u hu
        rwa [Addr.add_mid, Addr.add_mid] at this
    · obtain ⟨i, hi'⟩ := List.getElem?_of_mem hx
      exact (hp i x hi').1
/-- A frame's cells, read as data. -/
theorem elem_fr {e u : TypeId} (he : P.underlying e = some (.array 12 u)) (hu : P.underlying u = some (.int .u16)) (hcu : P.cellsOf u = 1) (n : Nat) (cs : List Value) (y : DataW H × List MemPlace) (hl : cs.length = 12)
    (h : DataW.trod enc P w base spare held n e cs = some y) : ∃ f : Nat → Nat, cs = eFr.c f ∧ ∀ k, f k < 65536 := by
  obtain ⟨xs, m, _, _, _, hxl, hx⟩ := DataW.trod_array he h
  rw [hcu] at hx
  have hc : ∀ i, i < 12 → ∃ n : Nat, n < 65536 ∧ cs[i]? = some (.int .u16 n) := by
    intro i hi
    have h1 := hx i hi
    rw [List.getElem?_eq_getElem (by omega)] at h1
    obtain ⟨n, hn, _, hw⟩ := DataW.trod_int hu h1
    have hb := bounds_u16 hw
    obtain ⟨k, rfl⟩ := Int.eq_ofNat_of_zero_le hb.1
    refine ⟨k, by omega, ?_⟩
    have hh : ((cs.drop (i * 1)).take 1)[0]? = some (.int .u16 (k : Int)) := by rw [hn]; rfl
    simpa [List.getElem?_take, List.getElem?_drop] using hh
  refine ⟨rowOf cs.toArray, ?_, ?_⟩
  · apply List.ext_getElem?
    intro i
    by_cases hi : i < 12
    · obtain ⟨n, _, hn⟩ := hc i hi
      have h2 : (FC (rowOf cs.toArray)).toList[i]? = some (.int .u16 (rowOf cs.toArray i)) := by rw [Array.getElem?_toList]; exact FC_get _ hi
      rw [hn]
      refine Eq.trans ?_ h2.symm
      simp [rowOf, hn]
    · rw [List.getElem?_eq_none (by omega), List.getElem?_eq_none]
      show (FC _).toList.length ≤ i
      rw [Array.length_toList, FC_size]; omega
  · intro k
    by_cases hk : k < 12
    · obtain ⟨n, hn, he⟩ := hc k hk
      simp [rowOf, he]; exact hn
    · have : cs[k]? = none := List.getElem?_eq_none (by omega)
      simp [rowOf, this]
end
end Go.Proofs.Ytjbjbdkmomkclaa
