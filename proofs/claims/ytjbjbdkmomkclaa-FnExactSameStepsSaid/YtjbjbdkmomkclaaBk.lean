/- LISTS IN MEMORY, whatever their elements: each element is a run of cells of one length. A slice that reads as a list; a block that is known whole; loads of an element. Plain lemmas: no function of the program is named. -/
import Derived.Test.YtjbjbdkmomkclaaFr
import Derived.Deep.MidRow
import Derived.Laws.OwnMore
import Derived.Laws.MakeOwn
namespace Go.Proofs.Ytjbjbdkmomkclaa
open Go.RowKit
/-- How an element lies in memory. -/
structure Enc (α : Type) where
  c : α → List Value
  n : Nat
  len : ∀ x, (c x).length = n
  one : ∀ x, ∀ v ∈ c x, v.oneCell' = true
def Enc.cells {α : Type} (E : Enc α) (L : List α) : List Value := L.flatMap E.c
section
variable {α : Type} {E : Enc α}
theorem Enc.cells_nil : E.cells [] = [] := rfl
theorem Enc.cells_cons (x : α) (L : List α) : E.cells (x :: L) = E.c x ++ E.cells L := rfl
theorem Enc.cells_append (L M : List α) : E.cells (L ++ M) = E.cells L ++ E.cells M := by simp [Enc.cells]
theorem Enc.cells_one (x : α) : E.cells [x] = E.c x := by simp [Enc.cells]
theorem Enc.cells_length : ∀ L : List α, (E.cells L).length = L.length * E.n
  | [] => by simp [Enc.cells]
  | x :: L => by rw [Enc.cells_cons, List.length_append, E.len, Enc.cells_length L, List.length_cons, Nat.succ_mul]; omega
theorem Enc.cells_get : ∀ (L : List α) (i : Nat) (x : α), L[i]? = some x → ∀ k v, (E.c x)[k]? = some v → (E.cells L)[i * E.n + k]? = some v
  | [], i, x, h, _, _, _ => by simp at h
  | y :: L, 0, x, h, k, v, hv => by
    have : y = x := by simpa using h
    subst this
    have hk : k < (E.c y).length := (List.getElem?_eq_some_iff.1 hv).1
    rw [Enc.cells_cons, Nat.zero_mul, Nat.zero_add, List.getElem?_append_left hk, hv]
  | y :: L, i + 1, x, h, k, v, hv => by
    have h' : L[i]? = some x := by simpa using h
    have := Enc.cells_get L i x h' k v hv
    rw [Enc.cells_cons, show (i + 1) * E.n + k = E.n + (i * E.n + k) by rw [Nat.succ_mul]; omega, List.getElem?_append_right (by rw [E.len]; omega), E.len, Nat.add_sub_cancel_left, this]
theorem Enc.cells_all (L : List α) : ∀ v ∈ E.cells L, v.oneCell' = true := by
  intro v hv
  obtain ⟨x, _, h⟩ := List.mem_flatMap.1 hv
  exact E.one x v h
theorem Enc.cells_take (L : List α) (i : Nat) : (E.cells L).take (i * E.n) = E.cells (L.take i) := by
  by_cases hi : i ≤ L.length
  · conv => lhs; rw [← List.take_append_drop i L, Enc.cells_append]
    rw [List.take_left' (by rw [Enc.cells_length, List.length_take]; congr 1; omega)]
  · rw [List.take_of_length_le (l := L) (by omega), List.take_of_length_le]
    rw [Enc.cells_length]
    exact Nat.mul_le_mul_right _ (by omega)
theorem Enc.cells_drop (L : List α) (i : Nat) : (E.cells L).drop (i * E.n) = E.cells (L.drop i) := by
  by_cases hi : i ≤ L.length
  · conv => lhs; rw [← List.take_append_drop i L, Enc.cells_append]
    rw [List.drop_left' (by rw [Enc.cells_length, List.length_take]; congr 1; omega)]
  · rw [List.drop_eq_nil_of_le («as» := L) (by omega), List.drop_eq_nil_of_le]
    · rfl
    · rw [Enc.cells_length]; exact Nat.mul_le_mul_right _ (by omega)
end
/-- The cells of a range, kept. -/
theorem range_keep {w w' : World} {b o : Nat} {cs : List Value} (h : w.rangeAt b o cs) (hb : w'.heap[b]? = w.heap[b]?) : w'.rangeAt b o cs := fun j v hv =>
  (World.cell?_of_block (w := w) (a := ⟨b, o + j, none⟩) hb).trans (h j v hv)
theorem range_below {B : Nat} {w w' : World} {b o : Nat} {cs : List Value} (h : w.rangeAt b o cs) (hb : Below B w w') (hlt : b < B) : w'.rangeAt b o cs := range_keep h (hb.block b hlt)
theorem range_part {α : Type} {E : Enc α} {w : World} {b o : Nat} {L : List α} (h : w.rangeAt b o (E.cells L)) {i : Nat} {x : α} (hi : L[i]? = some x) : w.rangeAt b (o + i * E.n) (E.c x) := fun j v hv => by
  have := h (i * E.n + j) v (Enc.cells_get L i x hi j v hv)
  rwa [← Nat.add_assoc] at this
/-- The slice value v reads as the list L; what it reads lies below block B. -/
def SlAt {α : Type} (E : Enc α) (w : World) (B : Nat) (v : Value) (L : List α) : Prop :=
  ∃ A c, v = .slice A L.length c ∧ L.length ≤ c ∧ c ≤ maxLen ∧ (0 < L.length → ∃ b o, A = some ⟨b, o, none⟩ ∧ b < B ∧ w.rangeAt b o (E.cells L))
section
variable {α : Type} {E : Enc α} {w w' : World} {B : Nat} {v : Value} {L : List α}
theorem SlAt.keep (h : SlAt E w B v L) (hk : ∀ b, b < B → w'.heap[b]? = w.heap[b]?) : SlAt E w' B v L := by
  obtain ⟨A, c, hv, h1, h2, h3⟩ := h
  refine ⟨A, c, hv, h1, h2, fun hp => ?_⟩
  obtain ⟨b, o, ha, hb, hr⟩ := h3 hp
  exact ⟨b, o, ha, hb, range_keep hr (hk b hb)⟩
theorem SlAt.below (h : SlAt E w B v L) (hb : Below B w w') : SlAt E w' B v L := h.keep hb.block
theorem SlAt.mono {B' : Nat} (h : SlAt E w B v L) (hB : B ≤ B') : SlAt E w B' v L := by
  obtain ⟨A, c, hv, h1, h2, h3⟩ := h
  refine ⟨A, c, hv, h1, h2, fun hp => ?_⟩
  obtain ⟨b, o, ha, hb, hr⟩ := h3 hp
  exact ⟨b, o, ha, by omega, hr⟩
theorem SlAt.later (h : SlAt E w w.heap.size v L) (hb : Below w.heap.size w w') : SlAt E w' w'.heap.size v L := (h.below hb).mono hb.size
theorem SlAt.drewN (h : SlAt E w B v L) (n : Nat) : SlAt E (w.drewN n) B v L := h
theorem SlAt.alloc (h : SlAt E w B v L) (hB : B ≤ w.heap.size) (o : Obj) : SlAt E (w.alloc o) B v L := h.keep fun b hb => Below.heap_alloc w o b (by omega)
theorem SlAt.nil_ {c : Nat} (hc : c ≤ maxLen) (A : Option Addr) : SlAt E w B (.slice A 0 c) [] := ⟨A, c, rfl, Nat.zero_le _, hc, fun h => absurd h (by simp)⟩
theorem SlAt.other (h : SlAt E w B v L) {a : Addr} (ha : B ≤ a.block) (u : Value) : SlAt E (w.setCell a u) B v L := h.keep fun b hb => Below.heap_setCell w a u b (by omega)
theorem SlAt.len (h : SlAt E w B v L) : L.length ≤ maxLen := by obtain ⟨_, _, _, h1, h2, _⟩ := h; omega
theorem SlAt.form (h : SlAt E w B v L) : ∃ A c, v = .slice A L.length c := by obtain ⟨A, c, hv, _⟩ := h; exact ⟨A, c, hv⟩
/-- A row of the call's own reads as its list. -/
theorem SlAt.of_own {base : Nat} {e : TypeId} {n : Nat} (h : w.ownsRow base e E.n v n (E.cells L)) (hE : 0 < E.n) : SlAt E w w.heap.size v L ∧ n = L.length := by
  have hn : n = L.length := by
    have h1 := h.1
    rw [Enc.cells_length] at h1
    exact (Nat.eq_of_mul_eq_mul_right hE h1).symm
  subst hn
  obtain ⟨_, ⟨hv, hl⟩ | ⟨g, cap, cur, hv, hb, hh, h1, h2, h3, h4⟩⟩ := h
  · exact ⟨⟨none, 0, by rw [hv, hl], by omega, Nat.zero_le _, fun h => absurd h (by omega)⟩, rfl⟩
  · refine ⟨⟨some ⟨g, 0, none⟩, cap, hv, h1, h2, fun _ => ⟨g, 0, rfl, (Array.getElem?_eq_some_iff.1 hh).1, fun j u hu => ?_⟩⟩, rfl⟩
    rw [cell_of_row w g _ cur e (0, 0) hh, Nat.zero_add]
    rw [← h4, List.getElem?_take] at hu
    split at hu
    · simpa using hu
    · cases hu
end
/-- Block g is just the elements of L. -/
def Held {α : Type} (E : Enc α) (w : World) (g : Nat) (t : TypeId) (L : List α) : Prop := Row w g t (E.cells L).toArray
section
variable {α : Type} {E : Enc α} {w w' : World} {g : Nat} {t : TypeId} {L : List α}
theorem Held.lt (h : Held E w g t L) : g < w.heap.size := Row.lt h
theorem Held.below {B : Nat} (h : Held E w g t L) (hb : Below B w w') (hg : g < B) : Held E w' g t L := Row.below h hb hg
theorem Held.range (h : Held E w g t L) : w.rangeAt g 0 (E.cells L) := fun j v hv => by
  rw [Row.cell h, Nat.zero_add]
  simpa using hv
/-- A part of it, from the head, with whatever capacity. -/
theorem Held.sl (h : Held E w g t L) {n c : Nat} (hn : n ≤ L.length) (hc : n ≤ c) (hm : c ≤ maxLen) : SlAt E w w.heap.size (.slice (some ⟨g, 0, none⟩) n c) (L.take n) := by
  have hl : (L.take n).length = n := by rw [List.length_take]; omega
  refine ⟨some ⟨g, 0, none⟩, c, by rw [hl], by omega, hm, fun _ => ⟨g, 0, rfl, h.lt, fun j v hv => h.range j v ?_⟩⟩
  rw [← Enc.cells_take] at hv
  rw [List.getElem?_take] at hv
  split at hv
  · exact hv
  · cases hv
end
/-! ### The encodings -/
def eFr : Enc (Nat → Nat) := ⟨fun f => (FC f).toList, 12, fun _ => rfl, fun f => FC_one f⟩
def eI (k : IntKind) : Enc Int := ⟨fun z => [.int k z], 1, fun _ => rfl, fun z v hv => by simp at hv; subst hv; rfl⟩
theorem eI_cells (k : IntKind) (L : List Int) : (eI k).cells L = L.map (Value.int k) := by
  unfold Enc.cells eI
  induction L with
  | nil => rfl
  | cons x L ih => simp only [List.flatMap_cons, List.map_cons]; rw [ih]; rfl
theorem eFr_n : eFr.n = 12 := rfl
theorem fr_cell {w : World} {b o : Nat} {f : Nat → Nat} (h : w.rangeAt b o (FC f).toList) {k : Nat} (hk : k < 12) : w.cell? ⟨b, o + k, none⟩ = some (.int .u16 (f k)) :=
  h k _ (by simpa using FC_get f hk)
/-- A whole frame as a range. -/
theorem Blk.range {w : World} {g : Nat} {t : TypeId} {f : Nat → Nat} (h : Blk w g t f) : w.rangeAt g 0 (FC f).toList := fun j v hv => by
  rw [Nat.zero_add, cell_of_row w g j _ t _ h]
  simpa using hv
/-! ### Loads of a frame out of the middle of a block -/
section
variable {P : Program} {ops : Array Oper} {rest : List Oper} {o : Oper} {a : Act} {w : World} {Q : Exit → Act → World → Prop}
theorem wpList_load_at (hgd : o.guard = none) (ty e : TypeId) (x : Operand) (ho : o.op = .load ty x) (b off : Nat) (hx : a.eval x = .pointer (some ⟨b, off, none⟩)) {f : Nat → Nat} (hb : w.rangeAt b off (FC f).toList)
    (hu : P.underlying ty = some (.array 12 e)) (hi : (P.info? ty).map (·.size) = some 12) (h : wpList P ops Q rest (a.put o.dst (.agg (FC f))) w) : wpList P ops Q (o :: rest) a w :=
  wpList_load_mid hgd ty x ho b off hx (FC f).toList (.array 12 e) hb hu rfl hi h
open Go.Sort in
theorem wpQuiet_load_at {w : World} {Q : Act → Prop} (hgd : o.guard = none) (ty e : TypeId) (x : Operand) (ho : o.op = .load ty x) (b off : Nat) (hx : a.eval x = .pointer (some ⟨b, off, none⟩)) {f : Nat → Nat} (hb : w.rangeAt b off (FC f).toList) (hlt : b < w.heap.size)
    (hu : P.underlying ty = some (.array 12 e)) (hi : (P.info? ty).map (·.size) = some 12)
    (h : wpQuiet P ops (fun w' => ∃ p : Regrown, w' = grow (redrawn w p.d) p.os) Q rest (a.put o.dst (.agg (FC f)))) : wpQuiet P ops (fun w' => ∃ p : Regrown, w' = grow (redrawn w p.d) p.os) Q (o :: rest) a := by
  unfold wpQuiet
  rw [if_pos (by simp [Region.wanted, hgd])]
  refine ⟨_, ?_, h⟩
  rintro w' ⟨p, rfl⟩
  have hb' : (grow (redrawn w p.d) p.os).rangeAt b off (FC f).toList := range_below hb (below_regrown w p.d p.os) hlt
  unfold Oper.quietAt execOp
  simp only [ho, hx, Instr.loadAt, Instr.sureAddr, Sem.run_bind, Sem.run_pure, Result.andThen_ok, run_loadVar_mid _ b off ty (FC f).toList _ hb' hu rfl hi]
  exact ⟨rfl, rfl⟩
end
end Go.Proofs.Ytjbjbdkmomkclaa
