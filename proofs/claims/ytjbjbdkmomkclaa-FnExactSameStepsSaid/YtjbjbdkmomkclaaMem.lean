/- LISTS IN MEMORY, WRITTEN: an element is stored into a block that is known whole; a row that has just been made; a row of the call's own that grows. Plain lemmas: no function of the program is named. -/
import Derived.Test.YtjbjbdkmomkclaaBk
import Derived.Test.YtjbjbdkmomkclaaRoom
import Derived.OwnWalk
namespace Go.Proofs.Ytjbjbdkmomkclaa
open Go.RowKit
theorem Row.setCells {g : Nat} {t : TypeId} : ∀ (vs : List Value) (o : Nat) (cs : Array Value) (w : World), Row w g t cs → o + vs.length ≤ cs.size → Row (w.setCells g o vs) g t (cs.toList.take o ++ vs ++ cs.toList.drop (o + vs.length)).toArray
  | [], o, cs, w, h, _ => by
    simp only [World.setCells, List.length_nil, Nat.add_zero, List.append_nil, List.take_append_drop]
    exact h
  | v :: r, o, cs, w, h, hl => by
    simp only [List.length_cons] at hl
    have h1 := Row.set h o v
    have h2 := Row.setCells r (o + 1) _ _ h1 (by simp; omega)
    rw [World.setCells]
    have e : (cs.setIfInBounds o v).toList.take (o + 1) ++ r ++ (cs.setIfInBounds o v).toList.drop (o + 1 + r.length) = cs.toList.take o ++ (v :: r) ++ cs.toList.drop (o + (v :: r).length) := by
      have ho : o < cs.toList.length := by simp; omega
      rw [Array.toList_setIfInBounds, List.drop_set_of_lt (by omega), List.take_set, List.take_succ_eq_append_getElem ho, List.set_append, if_neg (by simp; omega)]
      simp only [List.length_take, Nat.min_eq_left (Nat.le_of_lt ho), Nat.sub_self, List.set_cons_zero, List.append_assoc, List.cons_append, List.nil_append, List.length_cons]
      rw [show o + 1 + r.length = o + (r.length + 1) by omega]
    rw [e] at h2
    exact h2
theorem Wrote.setCells {B : Nat} {a : World} : ∀ (vs : List Value) (o : Nat) (w : World), Wrote B a w → Wrote B a (w.setCells B o vs)
  | [], _, _, h => h
  | v :: r, o, w, h => by
    rw [World.setCells]
    exact Wrote.setCells r (o + 1) _ (Wrote.setCell h (p := ⟨B, o, none⟩) rfl v)
theorem Wrote.keep {B : Nat} {w w' : World} (k : Wrote B w w') {b : Nat} (hb : b < w.heap.size) (hn : b ≠ B) : w'.heap[b]? = w.heap[b]? := k.block b hb hn
theorem Wrote.row {B : Nat} {w w' : World} (k : Wrote B w w') {g : Nat} {t : TypeId} {cs : Array Value} (h : Row w g t cs) (hn : g ≠ B) : Row w' g t cs := by
  unfold Row; rw [k.block g h.lt hn]; exact h
section
variable {α : Type} {E : Enc α} {w w' : World} {g : Nat} {t : TypeId} {L : List α}
theorem Held.wrote {B : Nat} (k : Wrote B w w') (h : Held E w g t L) (hn : g ≠ B) : Held E w' g t L := k.row h hn
theorem Held.there (h : Held E w g t L) {i : Nat} (hi : i < L.length) : w.there g (i * E.n) E.n := fun j hj => by
  refine ⟨?_, Row.free h _⟩
  rw [Row.cell h]
  have : i * E.n + j < (E.cells L).length := by
    rw [Enc.cells_length]
    calc i * E.n + j < i * E.n + E.n := by omega
      _ = (i + 1) * E.n := by rw [Nat.succ_mul]
      _ ≤ L.length * E.n := Nat.mul_le_mul_right _ hi
  simp [this]
theorem Enc.cells_set (L : List α) {i : Nat} (x : α) (hi : i < L.length) : E.cells (L.set i x) = (E.cells L).take (i * E.n) ++ E.c x ++ (E.cells L).drop (i * E.n + E.n) := by
  rw [List.set_eq_take_append_cons_drop, if_pos hi, Enc.cells_append, Enc.cells_cons, Enc.cells_take, show i * E.n + E.n = (i + 1) * E.n by rw [Nat.succ_mul], Enc.cells_drop, List.append_assoc]
theorem Held.store (h : Held E w g t L) {i : Nat} (x : α) (hi : i < L.length) : Held E (w.setCells g (i * E.n) (E.c x)) g t (L.set i x) := by
  have h1 := Row.setCells (E.c x) (i * E.n) _ w h (by
    have e : (i + 1) * E.n ≤ L.length * E.n := Nat.mul_le_mul_right _ hi
    rw [Nat.succ_mul] at e
    simp [Enc.cells_length, E.len]; omega)
  unfold Held
  rw [Enc.cells_set L x hi]
  simpa [E.len] using h1
/-- An element of one cell. -/
theorem Held.store1 (h : Held E w g t L) {i : Nat} (x : α) (hi : i < L.length) {v : Value} (hx : E.c x = [v]) : Held E (w.setCell ⟨g, i, none⟩ v) g t (L.set i x) := by
  have h1 := h.store x hi
  have hn : E.n = 1 := by rw [← E.len x, hx]; rfl
  rw [hx, hn, Nat.mul_one] at h1
  exact h1
theorem Held.elem (h : Held E w g t L) {i : Nat} {x : α} (hi : L[i]? = some x) : w.rangeAt g (i * E.n) (E.c x) := by
  have := range_part h.range hi
  rwa [Nat.zero_add] at this
theorem Held.cell1 (h : Held E w g t L) {i : Nat} {x : α} (hi : L[i]? = some x) {v : Value} (hx : E.c x = [v]) : w.cell? ⟨g, i, none⟩ = some v := by
  have hn : E.n = 1 := by rw [← E.len x, hx]; rfl
  have := h.elem hi 0 v (by rw [hx]; rfl)
  rwa [hn, Nat.mul_one, Nat.add_zero] at this
theorem Held.free (h : Held E w g t L) (k : Nat) : w.frozen? ⟨g, k, none⟩ = false := Row.free h k
theorem made_cells (x : α) (z : Array Value) (hz : z.toList = E.c x) (hn : 0 < E.n) : ∀ c, (madeCells z (c * E.n)).toList = E.cells (List.replicate c x) := by
  intro c
  apply List.ext_getElem?
  intro i
  have hzs : z.size = E.n := by rw [← Array.length_toList, hz, E.len]
  by_cases hi : i < c * E.n
  · have hq : i / E.n < c := (Nat.div_lt_iff_lt_mul hn).2 hi
    have hr : i % E.n < E.n := Nat.mod_lt _ hn
    have h1 : (E.c x)[i % E.n]? = some ((E.c x)[i % E.n]'(by rw [E.len]; exact hr)) := List.getElem?_eq_getElem _
    have h2 := Enc.cells_get (E := E) (List.replicate c x) (i / E.n) x (by simp [hq]) (i % E.n) _ h1
    rw [Nat.div_add_mod' i E.n] at h2
    rw [h2, ← h1, ← hz]
    simp only [madeCells, Array.getElem?_toList, Array.getElem?_map, hzs]
    rw [Array.getElem?_range, if_pos hi]
    simp [hzs, hr]
  · rw [List.getElem?_eq_none (by simp [madeCells]; omega), List.getElem?_eq_none (by rw [Enc.cells_length, List.length_replicate]; omega)]
theorem Held.made (w : World) (t : TypeId) (x : α) (z : Array Value) (hz : z.toList = E.c x) (hn : 0 < E.n) (c : Nat) : Held E (w.alloc (.cells (madeCells z (c * E.n)) t)) w.heap.size t (List.replicate c x) := by
  have h := Row.new w t (madeCells z (c * E.n))
  unfold Held
  rw [← made_cells x z hz hn c]
  simpa using h
/-- A row of the call's own that holds the elements of a list. -/
def OwnL {α : Type} (E : Enc α) (w : World) (base : Nat) (t : TypeId) (v : Value) (L : List α) : Prop := w.ownsRow base t E.n v L.length (E.cells L)
theorem OwnL.sl {base : Nat} {v : Value} (h : OwnL E w base t v L) (hE : 0 < E.n) : SlAt E w w.heap.size v L := (SlAt.of_own h hE).1
theorem OwnL.kept {base : Nat} {v : Value} {row : Option Nat} (h : OwnL E w base t v L) (hg : w.grownBy w' row) (hne : v.ownBlock = none ∨ v.ownBlock ≠ row) : OwnL E w' base t v L := World.ownsRow.kept h hg hne
theorem OwnL.below {base : Nat} {v : Value} (h : OwnL E w base t v L) (hb : Below w.heap.size w w') : OwnL E w' base t v L := World.ownsRow.kept (row := none) h ⟨hb.os, hb.tape, hb.output, hb.size, fun k hk _ => hb.block k hk⟩ (by cases v.ownBlock <;> simp)
theorem OwnL.alloc {base : Nat} {v : Value} (h : OwnL E w base t v L) (o : Obj) : OwnL E (w.alloc o) base t v L := World.ownsRow.alloc h o
theorem OwnL.nil_ (w : World) (base : Nat) (t : TypeId) : OwnL E w base t (.slice none 0 0) [] := World.ownsRow_nil w base t E.n
theorem OwnL.made (w : World) (base : Nat) (t : TypeId) (hb : base ≤ w.heap.size) : OwnL E (w.alloc (.cells #[] t)) base t (.slice (some ⟨w.heap.size, 0, none⟩) 0 0) [] :=
  World.ownsRow_made w #[] 0 hb (Nat.zero_le _) (by simp)
theorem OwnL.of_held {base : Nat} (h : Held E w g t L) (hb : base ≤ g) {n : Nat} (hm : L.length ≤ maxLen) (hn : n ≤ L.length) : OwnL E w base t (.slice (some ⟨g, 0, none⟩) n L.length) (L.take n) := by
  refine ⟨Enc.cells_length _, .inr ⟨g, L.length, (E.cells L).toArray, ?_, hb, h, by rw [List.length_take]; omega, hm, by simp [Enc.cells_length], ?_⟩⟩
  · rw [List.length_take, Nat.min_eq_left hn]
  · rw [List.length_take, Nat.min_eq_left hn]; simpa using Enc.cells_take L n
theorem OwnL.mono {base base' : Nat} {v : Value} (h : OwnL E w base t v L) (hb : base' ≤ base) : OwnL E w base' t v L := by
  obtain ⟨h1, h2⟩ := h
  refine ⟨h1, ?_⟩
  rcases h2 with h2 | ⟨g, cap, cur, hv, hg, r⟩
  · exact .inl h2
  · exact .inr ⟨g, cap, cur, hv, by omega, r⟩
/-- Its shape: nil, or a block from base on. -/
theorem OwnL.form {base : Nat} {v : Value} (h : OwnL E w base t v L) : (v = .slice none 0 0 ∧ L = []) ∨ ∃ g cap R, v = .slice (some ⟨g, 0, none⟩) L.length cap ∧ base ≤ g ∧ g < w.heap.size ∧ L.length ≤ cap ∧ cap ≤ maxLen ∧ Row w g t (E.cells L ++ R).toArray := by
  obtain ⟨_, ⟨hv, hl⟩ | ⟨g, cap, cur, hv, hb, hh, h1, h2, h3, h4⟩⟩ := h
  · exact .inl ⟨hv, List.eq_nil_of_length_eq_zero hl⟩
  · refine .inr ⟨g, cap, cur.toList.drop (L.length * E.n), hv, hb, (Array.getElem?_eq_some_iff.1 hh).1, h1, h2, ?_⟩
    rw [← h4, List.take_append_drop]
    exact hh
end
section
variable {P : Program} {ops : Array Oper} {rest : List Oper} {o : Oper} {a : Act} {w : World} {Q : Exit → Act → World → Prop} {α : Type} {E : Enc α} {g : Nat} {t : TypeId} {L : List α}
/-- An element of many cells is stored into a block that is known whole. -/
theorem wpList_store_held (hgd : o.guard = none) (ty : TypeId) (x y : Operand) (ho : o.op = .store ty x y) (h : Held E w g t L) {i off : Nat} (hi : i < L.length) (hoff : off = i * E.n) (hx : a.eval x = .pointer (some ⟨g, off, none⟩)) (e : α)
    {cs : Array Value} (hy : a.eval y = .agg cs) (hcs : cs.toList = E.c e) (hinf : (P.info? ty).map (·.size) = some E.n)
    (hk : Held E (w.setCells g (i * E.n) (E.c e)) g t (L.set i e) → Wrote g w (w.setCells g (i * E.n) (E.c e)) → wpList P ops Q rest (a.put o.dst undef) (w.setCells g (i * E.n) (E.c e))) : wpList P ops Q (o :: rest) a w := by
  subst hoff
  have hsz : cs.size = E.n := by rw [← Array.length_toList, hcs, E.len]
  refine wpList_store_mid hgd ty x y ho g (i * E.n) cs hx hy (by rw [hsz]; exact h.there hi) (by rw [hsz]; exact hinf) (Array.all_eq_true_iff_forall_mem.2 fun v hv => E.one e v (by rw [← hcs]; exact Array.mem_toList_iff.2 hv)) ?_
  rw [hcs]
  exact hk (h.store e hi) (Wrote.setCells _ _ _ (Wrote.refl g w))
end
theorem OwnL.val {α : Type} {E : Enc α} {w : World} {base : Nat} {t : TypeId} {v : Value} {L : List α} (h : OwnL E w base t v L) : ∃ A c, v = .slice A L.length c := by
  rcases h.form with ⟨rfl, rfl⟩ | ⟨g, cap, R, rfl, _⟩
  · exact ⟨none, 0, rfl⟩
  · exact ⟨some ⟨g, 0, none⟩, cap, rfl⟩
theorem OwnL.lt {α : Type} {E : Enc α} {w : World} {base : Nat} {t : TypeId} {v : Value} {L : List α} (h : OwnL E w base t v L) : ∀ k, v.ownBlock = some k → base ≤ k ∧ k < w.heap.size := World.ownsRow.lt h
theorem OwnL.ne_lo {α : Type} {E : Enc α} {w : World} {base B : Nat} {t : TypeId} {v : Value} {L : List α} (h : OwnL E w base t v L) (hB : B < base) : v.ownBlock ≠ some B := fun e => by have := (h.lt B e).1; omega
theorem OwnL.ne_hi {α : Type} {E : Enc α} {w : World} {base B : Nat} {t : TypeId} {v : Value} {L : List α} (h : OwnL E w base t v L) (hB : w.heap.size ≤ B) : v.ownBlock ≠ some B := fun e => by have := (h.lt B e).2; omega
theorem OwnL.wrote {α : Type} {E : Enc α} {w w' : World} {base B : Nat} {t : TypeId} {v : Value} {L : List α} (h : OwnL E w base t v L) (k : Wrote B w w') (hn : v.ownBlock ≠ some B) : OwnL E w' base t v L :=
  h.kept (row := some B) ⟨k.os, k.tape, k.output, k.size, fun i hi hne => k.block i hi (fun e => hne (by rw [e]))⟩ (.inr hn)
theorem OwnL.grown_below {α : Type} {E : Enc α} {a w w' : World} {S base : Nat} {t : TypeId} {v : Value} {L : List α} (h : OwnL E w base t v L) (hb : Below S a w) (hg : w.grownBy w' v.ownBlock) (hS : S ≤ base) (hw : S ≤ w.heap.size) : Below S a w' :=
  hb.grown hg hw (fun k hk => Nat.le_trans hS (h.lt k hk).1)
theorem range_new (w : World) (t : TypeId) (cs : Array Value) : (w.alloc (.cells cs t)).rangeAt w.heap.size 0 cs.toList := fun j v hv => by
  rw [Nat.zero_add, cell_of_row _ _ j cs t (0, 0) (heap_alloc_new w _)]
  simpa using hv
/-- One element is appended to a row of the call's own. -/
theorem wpList_append_one {P : Program} {ops : Array Oper} {rest : List Oper} {o : Oper} {a : Act} {w : World} {Q : Exit → Act → World → Prop} {α : Type} {E : Enc α} (hgd : o.guard = none) (s x : Operand) (t : TypeId)
    (ho : o.op = .call { callee := .builtin .append, args := #[s, x], argTypes := #[t, t] }) (base : Nat) (e : TypeId) {z : Value} {bytes : Nat} (ht : P.underlying t = some (.slice e))
    (hinf : (P.info? e).map (fun i => (i.zero, i.size, i.bytes)) = some (some z, E.n, bytes)) (hzs : z.cells.size = E.n) (hE : 0 < E.n) (hby : bytes ≤ 1000)
    {v : Value} {L : List α} (hown : OwnL E w base e v L) (hs : a.eval s = v) (y : α) {g : Nat} (hx : a.eval x = .slice (some ⟨g, 0, none⟩) 1 1) (hy : w.rangeAt g 0 (E.c y)) (hlen : L.length ≤ 1000000000) (hbase : base ≤ w.heap.size)
    (h : ∀ v' w', OwnL E w' base e v' (L ++ [y]) → w.grownBy w' v.ownBlock → wpList P ops Q rest (a.put o.dst v') w') : wpList P ops Q (o :: rest) a w := by
  obtain ⟨i, hi, hz0, hz1, hz2⟩ := info_parts hinf
  refine wpList_append_own _ hgd s x t ho base e i z E.n bytes ht hi hz0 hz1 hz2 hzs hE v L.length (E.cells L) hs hown ⟨g, 0, none⟩ 1 1 (E.c y) hx (by rw [E.len, Nat.one_mul]) (fun j u hu => by rw [Addr.add_mid]; exact hy j u hu) (E.one y) (by unfold maxLen; omega) ?_ hbase ?_
  · have : (L.length + 1) * bytes ≤ (1000000000 + 1) * 1000 := Nat.mul_le_mul (by omega) hby
    omega
  · intro v' w' h1 h2 _
    refine h v' w' ?_ h2
    unfold OwnL
    rw [List.length_append, Enc.cells_append, Enc.cells_one]
    exact h1
/-- A slice of one element is built. -/
theorem wpList_build1 {P : Program} {ops : Array Oper} {rest : List Oper} {o : Oper} {a : Act} {w : World} {Q : Exit → Act → World → Prop} (hgd : o.guard = none) (t e : TypeId) (x : Operand) (ho : o.op = .buildSlice t 1 #[(0, x)]) {v : Value} {cs : Array Value} (hx : a.eval x = v)
    (hr : ∀ w, (Instr.buildSlice t 1 #[(0, v)]).run P w = .ok (.slice (some ⟨w.heap.size, 0, none⟩) 1 1) (w.alloc (.cells cs e)))
    (h : wpList P ops Q rest (a.put o.dst (.slice (some ⟨w.heap.size, 0, none⟩) 1 1)) (w.alloc (.cells cs e))) : wpList P ops Q (o :: rest) a w :=
  wpList_plain hgd fun K hK => by
    unfold Oper.wp execOp
    simp only [ho, List.map_toArray, List.map_cons, List.map_nil, hx, Sem.run_bind, hr, Result.andThen_ok, Sem.run_pure]
    exact hK _ _ h
/-- What a call hands back: a list of its own, and a code. -/
def GivesL {α : Type} (E : Enc α) (t : TypeId) (M : List α) (c : Int) (w : World) (e : Ending) (w' : World) : Prop :=
  ∃ v, e = .returned (.tuple #[v, .int .i64 c]) ∧ OwnL E w' w.heap.size t v M ∧ Below w.heap.size w w'
/-- A list of its own alone. -/
def GivesV {α : Type} (E : Enc α) (t : TypeId) (M : List α) (w : World) (e : Ending) (w' : World) : Prop :=
  ∃ v, e = .returned v ∧ OwnL E w' w.heap.size t v M ∧ Below w.heap.size w w'
/-- A slice cut to a length, from the head of a block. -/
theorem run_slice_to {P : Program} {T e : TypeId} {i : TypeInfo} (hT : P.underlying T = some (.slice e)) (hi : P.info? e = some i) (g len cap h : Nat) (k : IntKind) (hh : h ≤ cap) (w : World) :
    (Instr.slice T (.slice (some ⟨g, 0, none⟩) len cap) none (some (.int k (h : Int))) none).run P w = .ok (.slice (some ⟨g, 0, none⟩) h cap) w := by
  have h1 : (0 : Int) ≤ (h : Int) ∧ (h : Int) ≤ (cap : Int) := by omega
  simp only [Instr.slice, run_underlying hT, Sem.run_bind, Result.andThen_ok, Instr.sliceBounds, Instr.sliceBound, asIntOf, Sem.run_pure, if_pos h1, Int.toNat_natCast, run_sizeOf w hi, Nat.sub_zero, Nat.zero_mul]
  simp [Addr.add]
/-- The elements 0 .. n - 1 of a made block are set, one by one. -/
theorem Held.store_tab {α : Type} {E : Enc α} {w' : World} {g : Nat} {t : TypeId} {F G : Nat → α} {m k : Nat} {x : α} (h : Held E w' g t ((tab F m).set k x)) (hG : ∀ i, i < m → updA F k x i = G i) : Held E w' g t (tab G m) := by
  rw [tab_set, tab_congr hG] at h; exact h
theorem Held.tab_congr {α : Type} {E : Enc α} {w' : World} {g : Nat} {t : TypeId} {F G : Nat → α} {m : Nat} (h : Held E w' g t (tab F m)) (hG : ∀ i, i < m → F i = G i) : Held E w' g t (tab G m) := by
  rw [Go.Proofs.Ytjbjbdkmomkclaa.tab_congr hG] at h; exact h
/-- What a call hands back that copies a list into a block of its own, with spare room. -/
def MadeAt {α : Type} (E : Enc α) (t : TypeId) (z : α) (L : List α) (w : World) (e : Ending) (w' : World) : Prop :=
  ∃ g, e = .returned (.slice (some ⟨g, 0, none⟩) L.length (L.length + roomN L.length)) ∧ w.heap.size ≤ g ∧ Held E w' g t (roomy z L) ∧ Below w.heap.size w w'
/-- Block g has N cells, all of which may be written. -/
def RowN (w : World) (g : Nat) (t : TypeId) (N : Nat) : Prop := ∃ cs : Array Value, cs.size = N ∧ Row w g t cs
theorem RowN.of_held {α : Type} {E : Enc α} {w : World} {g : Nat} {t : TypeId} {L : List α} (h : Held E w g t L) : RowN w g t (L.length * E.n) := ⟨_, by simp [Enc.cells_length], h⟩
theorem RowN.lt {w : World} {g : Nat} {t : TypeId} {N : Nat} (h : RowN w g t N) : g < w.heap.size := by obtain ⟨_, _, h⟩ := h; exact Row.lt h
theorem RowN.below {B : Nat} {w w' : World} {g : Nat} {t : TypeId} {N : Nat} (h : RowN w g t N) (hb : Below B w w') (hg : g < B) : RowN w' g t N := by
  obtain ⟨cs, hs, h⟩ := h; exact ⟨cs, hs, h.below hb hg⟩
theorem RowN.wrote {B : Nat} {w w' : World} {g : Nat} {t : TypeId} {N : Nat} (h : RowN w g t N) (k : Wrote B w w') (hn : g ≠ B) : RowN w' g t N := by
  obtain ⟨cs, hs, h⟩ := h; exact ⟨cs, hs, k.row h hn⟩
theorem RowN.cell {w : World} {g : Nat} {t : TypeId} {N : Nat} (h : RowN w g t N) {q : Nat} (hq : q < N) : ∃ v, w.cell? ⟨g, q, none⟩ = some v := by
  obtain ⟨cs, hs, h⟩ := h; exact ⟨cs[q]'(by omega), by rw [h.cell, Array.getElem?_eq_getElem]⟩
theorem RowN.free {w : World} {g : Nat} {t : TypeId} {N : Nat} (h : RowN w g t N) (q : Nat) : w.frozen? ⟨g, q, none⟩ = false := by obtain ⟨cs, hs, h⟩ := h; exact h.free q
/-- The first q cells of a block are marked; nothing else has been written since w0. -/
structure Marks (w0 w : World) (g : Nat) (t : TypeId) (N : Nat) (val : Nat → Value) (q : Nat) : Prop where
  row : RowN w g t N
  wrote : Wrote g w0 w
  cells : ∀ j, j < q → w.cell? ⟨g, j, none⟩ = some (val j)
theorem Marks.start {w : World} {g : Nat} {t : TypeId} {N : Nat} (h : RowN w g t N) (val : Nat → Value) : Marks w w g t N val 0 := ⟨h, Wrote.refl _ _, by omega⟩
theorem Marks.step {w0 w : World} {g : Nat} {t : TypeId} {N : Nat} {val : Nat → Value} {q : Nat} (h : Marks w0 w g t N val q) (hq : q < N) {v : Value} (hv : v = val q) : Marks w0 (w.setCell ⟨g, q, none⟩ v) g t N val (q + 1) := by
  subst hv
  obtain ⟨cs, hs, hr⟩ := h.row
  refine ⟨⟨_, ?_, hr.set q (val q)⟩, h.wrote.setCell rfl _, fun j hj => ?_⟩
  · simpa using hs
  · rw [(hr.set q (val q)).cell]
    rcases Nat.lt_succ_iff_lt_or_eq.1 hj with hlt | rfl
    · rw [Array.getElem?_setIfInBounds_ne (by omega), ← hr.cell, h.cells j hlt]
    · rw [Array.getElem?_setIfInBounds_self_of_lt (by omega)]
/-- The first q cells of a block are these. -/
def Marked (w : World) (g : Nat) (val : Nat → Value) (q : Nat) : Prop := ∀ j, j < q → w.cell? ⟨g, j, none⟩ = some (val j)
theorem Marked.keep {w w' : World} {g : Nat} {val : Nat → Value} {q : Nat} (h : Marked w g val q) (hb : w'.heap[g]? = w.heap[g]?) : Marked w' g val q := fun j hj => (World.cell?_of_block (w := w) (a := ⟨g, j, none⟩) hb).trans (h j hj)
/-- A slice value's first n cells are marked. -/
def MarkedV (w : World) (v : Value) (val : Nat → Value) (n m : Nat) : Prop :=
  ∃ A c, v = .slice A n c ∧ (n = 0 ∨ ∃ g, A = some ⟨g, 0, none⟩ ∧ g < w.heap.size ∧ Marked w g val m)
theorem MarkedV.below {w w' : World} {v : Value} {val : Nat → Value} {n m : Nat} (h : MarkedV w v val n m) (hb : Below w.heap.size w w') : MarkedV w' v val n m := by
  obtain ⟨A, c, hv, h⟩ := h
  refine ⟨A, c, hv, ?_⟩
  rcases h with h | ⟨g, hA, hg, hm⟩
  · exact .inl h
  · exact .inr ⟨g, hA, Nat.lt_of_lt_of_le hg hb.size, hm.keep (hb.block g hg)⟩
theorem Marks.grown {w w' : World} {g : Nat} {t : TypeId} {N : Nat} {val : Nat → Value} {q : Nat} (h : Marks w w' g t N val q) : w.grownBy w' (some g) := by
  obtain ⟨_, k, _⟩ := h
  exact ⟨k.os, k.tape, k.output, k.size, fun i hi hne => k.block i hi (fun e => hne (by rw [e]))⟩
def u16At (k : Int) (q : Nat) : Value := .int .u16 (IntKind.u16.wrap (k + q))
def i64At (k : Int) (q : Nat) : Value := .int .i64 (k + q)
section
variable {P : Program} {ops : Array Oper} {rest : List Oper} {o : Oper} {a : Act} {Q : Exit → Act → World → Prop} {α : Type} {E : Enc α}
/-- A struct, or an array, is loaded out of the middle of a block. -/
theorem wpList_load_el {w : World} (hgd : o.guard = none) (ty : TypeId) (x : Operand) (ho : o.op = .load ty x) (b off : Nat) (hx : a.eval x = .pointer (some ⟨b, off, none⟩)) (y : α) (cs : Array Value) (hcs : cs.toList = E.c y) (hb : w.rangeAt b off (E.c y)) {d : TypeDesc}
    (hu : P.underlying ty = some d) (hd : d.isRow = true) (hi : (P.info? ty).map (·.size) = some E.n) (h : wpList P ops Q rest (a.put o.dst (.agg cs)) w) : wpList P ops Q (o :: rest) a w := by
  refine wpList_load_mid hgd ty x ho b off hx (E.c y) d hb hu hd (by rw [E.len]; exact hi) ?_
  rw [← hcs]
  simpa using h
open Go.Sort in
theorem wpQuiet_load_el {w : World} {Q : Act → Prop} (hgd : o.guard = none) (ty : TypeId) (x : Operand) (ho : o.op = .load ty x) (b off : Nat) (hx : a.eval x = .pointer (some ⟨b, off, none⟩)) (y : α) (cs : Array Value) (hcs : cs.toList = E.c y) (hb : w.rangeAt b off (E.c y)) (hlt : b < w.heap.size) {d : TypeDesc}
    (hu : P.underlying ty = some d) (hd : d.isRow = true) (hi : (P.info? ty).map (·.size) = some E.n)
    (h : wpQuiet P ops (fun w' => ∃ p : Regrown, w' = grow (redrawn w p.d) p.os) Q rest (a.put o.dst (.agg cs))) : wpQuiet P ops (fun w' => ∃ p : Regrown, w' = grow (redrawn w p.d) p.os) Q (o :: rest) a := by
  unfold wpQuiet
  rw [if_pos (by simp [Region.wanted, hgd])]
  refine ⟨_, ?_, h⟩
  rintro w' ⟨p, rfl⟩
  have hb' : (grow (redrawn w p.d) p.os).rangeAt b off (E.c y) := range_below hb (below_regrown w p.d p.os) hlt
  have hcs' : (E.c y).toArray = cs := by rw [← hcs]
  unfold Oper.quietAt execOp
  simp only [ho, hx, Instr.loadAt, Instr.sureAddr, Sem.run_bind, Sem.run_pure, Result.andThen_ok, run_loadVar_mid _ b off ty (E.c y) d hb' hu hd (by rw [E.len]; exact hi), hcs']
  exact ⟨rfl, rfl⟩
end
theorem OwnL.ne_type {α : Type} {E : Enc α} {w : World} {base g : Nat} {t t' : TypeId} {v : Value} {L : List α} {cs : Array Value} (h : OwnL E w base t v L) (hr : Row w g t' cs) (ht : t ≠ t') : v.ownBlock ≠ some g := by
  intro e
  rcases h.form with ⟨rfl, _⟩ | ⟨g', cap, R, rfl, _, _, _, _, hr'⟩
  · simp [Value.ownBlock] at e
  · have : g' = g := by simpa [Value.ownBlock] using e
    subst this
    have := hr'.symm.trans hr
    simp at this
    exact ht this.2
theorem grown_row {w w' : World} {row : Option Nat} {g : Nat} {t : TypeId} {cs : Array Value} (h : Row w g t cs) (hg : w.grownBy w' row) (hne : row ≠ some g) : Row w' g t cs := (hg.block g h.lt (fun e => hne e.symm)).trans h
end Go.Proofs.Ytjbjbdkmomkclaa
