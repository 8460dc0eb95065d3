/- LAYERS: how a layer lies in memory: a cel and three int8. -/
import Derived.Test.YtpmlepgnokbpaaaRows
import Derived.Test.YtpmlepgnokbpaaaCel0
import Derived.Test.YtpmlepgnokbpaaaMem
namespace Go.Proofs.Ytpmlepgnokbpaaa
open Go.RowKit
set_option linter.unusedVariables false
set_option linter.unusedSimpArgs false
structure Ly where
  i : Nat → Nat
  k : Nat → Nat
  e : Int
  s : Int
  h : Int
def zeroLy : Ly := ⟨zeroF, zeroF, 0, 0, 0⟩
instance : Inhabited Ly := ⟨zeroLy⟩
def LC (l : Ly) : Array Value := #[.int .u16 (l.i 0), .int .u16 (l.i 1), .int .u16 (l.i 2), .int .u16 (l.i 3), .int .u16 (l.i 4), .int .u16 (l.i 5), .int .u16 (l.i 6), .int .u16 (l.i 7), .int .u16 (l.i 8), .int .u16 (l.i 9), .int .u16 (l.i 10), .int .u16 (l.i 11), .int .u16 (l.k 0), .int .u16 (l.k 1), .int .u16 (l.k 2), .int .u16 (l.k 3), .int .u16 (l.k 4), .int .u16 (l.k 5), .int .u16 (l.k 6), .int .u16 (l.k 7), .int .u16 (l.k 8), .int .u16 (l.k 9), .int .u16 (l.k 10), .int .u16 (l.k 11), .int .i8 l.e, .int .i8 l.s, .int .i8 l.h]
theorem LC_list (l : Ly) : (LC l).toList = (CC l.i l.k).toList ++ [.int .i8 l.e, .int .i8 l.s, .int .i8 l.h] := rfl
theorem LC_one (l : Ly) : ∀ v ∈ (LC l).toList, v.oneCell' = true := by
  intro v hv
  rw [LC_list, List.mem_append] at hv
  rcases hv with h | h
  · exact CC_one _ _ v h
  · simp at h; rcases h with rfl | rfl | rfl <;> rfl
theorem LC_zero : LC zeroLy = #[.int .u16 0, .int .u16 0, .int .u16 0, .int .u16 0, .int .u16 0, .int .u16 0, .int .u16 0, .int .u16 0, .int .u16 0, .int .u16 0, .int .u16 0, .int .u16 0, .int .u16 0, .int .u16 0, .int .u16 0, .int .u16 0, .int .u16 0, .int .u16 0, .int .u16 0, .int .u16 0, .int .u16 0, .int .u16 0, .int .u16 0, .int .u16 0, .int .i8 0, .int .i8 0, .int .i8 0] := rfl
def eLy : Enc Ly := ⟨fun l => (LC l).toList, 27, fun _ => rfl, fun l => LC_one l⟩
theorem eLy_n : eLy.n = 27 := rfl
/-- What a layer's fields hold. -/
def ltLy1 (l : Ly) : Prop := (∀ y, l.i y < 65536) ∧ (∀ y, l.k y < 65536) ∧ (-128 ≤ l.e ∧ l.e ≤ 127) ∧ (-128 ≤ l.s ∧ l.s ≤ 127) ∧ -128 ≤ l.h ∧ l.h ≤ 127
def ltLy (L : List Ly) : Prop := ∀ l ∈ L, ltLy1 l
def lAt (L : List Ly) (i : Nat) : Ly := L.getD i zeroLy
theorem lAt_get {L : List Ly} {i : Nat} (h : i < L.length) : L[i]? = some (lAt L i) := by
  unfold lAt
  rw [List.getD_eq_getElem?_getD, List.getElem?_eq_getElem h]; rfl
theorem zeroLy_lt : ltLy1 zeroLy := ⟨zeroF_lt, zeroF_lt, by simp [zeroLy], by simp [zeroLy], by simp [zeroLy]⟩
theorem lAt_lt {L : List Ly} (h : ltLy L) (i : Nat) : ltLy1 (lAt L i) := by
  by_cases hi : i < L.length
  · exact h _ (List.mem_of_getElem? (lAt_get hi))
  · unfold lAt
    rw [List.getD_eq_getElem?_getD, List.getElem?_eq_none (by omega)]
    exact zeroLy_lt
/-- A layer lies in block b from offset o on. -/
structure LayIn (w : World) (b o : Nat) (l : Ly) : Prop where
  cel : CelIn w b o l.i l.k
  e : w.cell? ⟨b, o + 24, none⟩ = some (.int .i8 l.e)
  s : w.cell? ⟨b, o + 25, none⟩ = some (.int .i8 l.s)
  h : w.cell? ⟨b, o + 26, none⟩ = some (.int .i8 l.h)
theorem layIn {w : World} {b o : Nat} {l : Ly} (h : w.rangeAt b o (eLy.c l)) : LayIn w b o l :=
  ⟨celIn_range (fun j v hv => h j v (by
      show (LC l).toList[j]? = some v
      rw [LC_list, List.getElem?_append_left ((List.getElem?_eq_some_iff.1 hv).1)]; exact hv)),
    h 24 _ rfl, h 25 _ rfl, h 26 _ rfl⟩
theorem LayIn.below {B : Nat} {w w' : World} {b o : Nat} {l : Ly} (h : LayIn w b o l) (hb : Below B w w') (hlt : b < B) : LayIn w' b o l :=
  ⟨h.cel.below hb hlt, (World.cell?_of_block (w := w) (a := ⟨b, o + 24, none⟩) (hb.block b hlt)).trans h.e, (World.cell?_of_block (w := w) (a := ⟨b, o + 25, none⟩) (hb.block b hlt)).trans h.s, (World.cell?_of_block (w := w) (a := ⟨b, o + 26, none⟩) (hb.block b hlt)).trans h.h⟩
/-- Block g is a layer. -/
def LayAt (w : World) (g : Nat) (t : TypeId) (l : Ly) : Prop := Row w g t (LC l)
section
variable {w w' : World} {g : Nat} {t : TypeId} {l : Ly}
theorem LayAt.new (w : World) (t : TypeId) (l : Ly) : LayAt (w.alloc (.cells (LC l) t)) w.heap.size t l := Row.new w t _
theorem LayAt.lt (h : LayAt w g t l) : g < w.heap.size := Row.lt h
theorem LayAt.alloc (h : LayAt w g t l) (o : Obj) : LayAt (w.alloc o) g t l := Row.alloc h o
theorem LayAt.below {B : Nat} (h : LayAt w g t l) (hb : Below B w w') (hg : g < B) : LayAt w' g t l := Row.below h hb hg
theorem LayAt.wrote {B : Nat} (h : LayAt w g t l) (hb : Wrote B w w') (hg : g ≠ B) : LayAt w' g t l := hb.row h hg
theorem LayAt.range (h : LayAt w g t l) : w.rangeAt g 0 (eLy.c l) := fun j v hv => by rw [Nat.zero_add, Row.cell h]; simpa [eLy] using hv
theorem LayAt.cells (h : LayAt w g t l) : LayIn w g 0 l := layIn h.range
theorem LayAt.e (h : LayAt w g t l) : w.cell? ⟨g, 24, none⟩ = some (.int .i8 l.e) := h.cells.e
theorem LayAt.s (h : LayAt w g t l) : w.cell? ⟨g, 25, none⟩ = some (.int .i8 l.s) := h.cells.s
theorem LayAt.h (h : LayAt w g t l) : w.cell? ⟨g, 26, none⟩ = some (.int .i8 l.h) := h.cells.h
theorem LayAt.cel (h : LayAt w g t l) : CelIn w g 0 l.i l.k := h.cells.cel
theorem LayAt.free (h : LayAt w g t l) (k : Nat) : w.frozen? ⟨g, k, none⟩ = false := Row.free h k
theorem LayAt.setE (h : LayAt w g t l) (x : Int) : LayAt (w.setCell ⟨g, 24, none⟩ (.int .i8 x)) g t ⟨l.i, l.k, x, l.s, l.h⟩ := Row.set h 24 _
theorem LayAt.setS (h : LayAt w g t l) (x : Int) : LayAt (w.setCell ⟨g, 25, none⟩ (.int .i8 x)) g t ⟨l.i, l.k, l.e, x, l.h⟩ := Row.set h 25 _
theorem LayAt.setH (h : LayAt w g t l) (x : Int) : LayAt (w.setCell ⟨g, 26, none⟩ (.int .i8 x)) g t ⟨l.i, l.k, l.e, l.s, x⟩ := Row.set h 26 _
theorem LayAt.setRow (h : LayAt w g t l) (l' : Ly) : LayAt (w.setRow g (LC l')) g t l' := Row.setRow h _
theorem LayAt.there (h : LayAt w g t l) : w.there g 0 24 := fun j hj => by
  refine ⟨?_, Row.free h _⟩
  have hlt : 0 + j < (LC l).size := by show 0 + j < 27; omega
  rw [Row.cell h, Array.getElem?_eq_getElem hlt]
  rfl
theorem LayAt.setCel (h : LayAt w g t l) (i k : Nat → Nat) : LayAt (w.setCells g 0 (CC i k).toList) g t ⟨i, k, l.e, l.s, l.h⟩ := by
  have h1 := Row.setCells (CC i k).toList 0 _ w h (by show 0 + 24 ≤ 27; omega)
  exact h1
end
section
variable {P : Program} {ops : Array Oper} {rest : List Oper} {o : Oper} {a : Act} {w : World} {Q : Exit → Act → World → Prop} {g : Nat} {t : TypeId} {l : Ly}
theorem wpList_load_lay (hgd : o.guard = none) (ty : TypeId) (x : Operand) (ho : o.op = .load ty x) (hx : a.eval x = .pointer (some ⟨g, 0, none⟩)) (hb : LayAt w g t l) {d : TypeDesc} (hu : P.underlying ty = some d) (hd : d.isRow = true) (hi : (P.info? ty).map (·.size) = some 27)
    (h : wpList P ops Q rest (a.put o.dst (.agg (LC l))) w) : wpList P ops Q (o :: rest) a w :=
  wpList_load_row hgd ty x ho g hx t (LC l) (0, 0) d hb hu (by cases d <;> simp_all [TypeDesc.isRow]) hi h
theorem wpList_load_layIn (hgd : o.guard = none) (ty : TypeId) (x : Operand) (ho : o.op = .load ty x) (b off : Nat) (hx : a.eval x = .pointer (some ⟨b, off, none⟩)) (hb : w.rangeAt b off (eLy.c l)) {d : TypeDesc} (hu : P.underlying ty = some d) (hd : d.isRow = true) (hi : (P.info? ty).map (·.size) = some 27)
    (h : wpList P ops Q rest (a.put o.dst (.agg (LC l))) w) : wpList P ops Q (o :: rest) a w :=
  wpList_load_mid hgd ty x ho b off hx (LC l).toList d hb hu hd hi h
theorem wpList_store_lay (hgd : o.guard = none) (ty : TypeId) (x y : Operand) (ho : o.op = .store ty x y) {l0 : Ly} (hb : LayAt w g t l0) (hx : a.eval x = .pointer (some ⟨g, 0, none⟩)) (hy : a.eval y = .agg (LC l)) (hi : (P.info? ty).map (·.size) = some 27)
    (h : LayAt (w.setRow g (LC l)) g t l → wpList P ops Q rest (a.put o.dst undef) (w.setRow g (LC l))) : wpList P ops Q (o :: rest) a w :=
  wpList_store_row hgd ty x y ho g hx hb hy rfl (LC_one l) hi (h (hb.setRow l))
/-- A layer's cel is stored. -/
theorem wpList_store_layCel (hgd : o.guard = none) (ty : TypeId) (x y : Operand) (ho : o.op = .store ty x y) (hb : LayAt w g t l) (hx : a.eval x = .pointer (some ⟨g, 0, none⟩)) {i k : Nat → Nat} (hy : a.eval y = .agg (CC i k)) (hi : (P.info? ty).map (·.size) = some 24)
    (h : LayAt (w.setCells g 0 (CC i k).toList) g t ⟨i, k, l.e, l.s, l.h⟩ → Wrote g w (w.setCells g 0 (CC i k).toList) → wpList P ops Q rest (a.put o.dst undef) (w.setCells g 0 (CC i k).toList)) : wpList P ops Q (o :: rest) a w :=
  wpList_store_mid hgd ty x y ho g 0 (CC i k) hx hy hb.there hi (Array.all_eq_true_iff_forall_mem.2 fun v hv => CC_one i k v (Array.mem_toList_iff.2 hv)) (h (hb.setCel i k) (Wrote.setCells _ _ _ (Wrote.refl g w)))
/-- A cel is stored into the block that has just been laid. -/
theorem wpList_store_celNew (hgd : o.guard = none) (ty : TypeId) (x y : Operand) (ho : o.op = .store ty x y) {i0 k0 i k : Nat → Nat} (hx : a.eval x = .pointer (some ⟨w.heap.size, 0, none⟩))
    (hy : a.eval y = .agg (CC i k)) (hi : (P.info? ty).map (·.size) = some 24) (h : wpList P ops Q rest (a.put o.dst undef) (w.alloc (.cells (CC i k) t))) : wpList P ops Q (o :: rest) a (w.alloc (.cells (CC i0 k0) t)) :=
  wpList_store_cel hgd ty x y ho (CelAt.new w t i0 k0) hx hy hi (fun _ => by rw [setRow_new]; exact h)
theorem wpList_store_layNew (hgd : o.guard = none) (ty : TypeId) (x y : Operand) (ho : o.op = .store ty x y) {l0 : Ly} (hx : a.eval x = .pointer (some ⟨w.heap.size, 0, none⟩))
    (hy : a.eval y = .agg (LC l)) (hi : (P.info? ty).map (·.size) = some 27) (h : wpList P ops Q rest (a.put o.dst undef) (w.alloc (.cells (LC l) t))) : wpList P ops Q (o :: rest) a (w.alloc (.cells (LC l0) t)) :=
  wpList_store_lay hgd ty x y ho (LayAt.new w t l0) hx hy hi (fun _ => by rw [setRow_new]; exact h)
end
end Go.Proofs.Ytpmlepgnokbpaaa
