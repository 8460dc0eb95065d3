import Derived.Test.YtpmlepgnokbpaaaRows
import Derived.Test.YtpmlepgnokbpaaaM5
import Derived.Test.YtpmlepgnokbpaaaM3
import Derived.Laws.StructEq
import Derived.Test.YtpmlepgnokbpaaaM1
/- LAYERS: how a layer lies in memory: a cel and three int8. -/
namespace Go.Proofs.Ytpmlepgnokbpaaa
open Go.RowKit
set_option linter.unusedVariables false
set_option linter.unusedSimpArgs false
structure Ly where
  i : Nat → Nat
  k : Nat → Nat
  e : Int
  s : Int
  h : Int
def zeroLy : Ly := ⟨zeroF, zeroF, 0, 0, 0⟩
instance : Inhabited Ly := ⟨zeroLy⟩
def LC (l : Ly) : Array Value := #[.int .u16 (l.i 0), .int .u16 (l.i 1), .int .u16 (l.i 2), .int .u16 (l.i 3), .int .u16 (l.i 4), .int .u16 (l.i 5), .int .u16 (l.i 6), .int .u16 (l.i 7), .int .u16 (l.i 8), .int .u16 (l.i 9), .int .u16 (l.i 10), .int .u16 (l.i 11), .int .u16 (l.k 0), .int .u16 (l.k 1), .int .u16 (l.k 2), .int .u16 (l.k 3), .int .u16 (l.k 4), .int .u16 (l.k 5), .int .u16 (l.k 6), .int .u16 (l.k 7), .int .u16 (l.k 8), .int .u16 (l.k 9), .int .u16 (l.k 10), .int .u16 (l.k 11), .int .i8 l.e, .int .i8 l.s, .int .i8 l.h]
theorem LC_list (l : Ly) : (LC l).toList = (CC l.i l.k).toList ++ [.int .i8 l.e, .int .i8 l.s, .int .i8 l.h] := rfl
theorem LC_one (l : Ly) : ∀ v ∈ (LC l).toList, v.oneCell' = true := by
  intro v hv
  rw [LC_list, List.mem_append] at hv
  rcases hv with h | h
  · exact CC_one _ _ v h
  · simp at h; rcases h with rfl | rfl | rfl <;> rfl
theorem LC_zero : LC zeroLy = #[.int .u16 0, .int .u16 0, .int .u16 0, .int .u16 0, .int .u16 0, .int .u16 0, .int .u16 0, .int .u16 0, .int .u16 0, .int .u16 0, .int .u16 0, .int .u16 0, .int .u16 0, .int .u16 0, .int .u16 0, .int .u16 0, .int .u16 0, .int .u16 0, .int .u16 0, .int .u16 0, .int .u16 0, .int .u16 0, .int .u16 0, .int .u16 0, .int .i8 0, .int .i8 0, .int .i8 0] := rfl
def eLy : Enc Ly := ⟨fun l => (LC l).toList, 27, fun _ => rfl, fun l => LC_one l⟩
theorem eLy_n : eLy.n = 27 := rfl
/-- What a layer's fields hold. -/
def ltLy1 (l : Ly) : Prop := (∀ y, l.i y < 65536) ∧ (∀ y, l.k y < 65536) ∧ (-128 ≤ l.e ∧ l.e ≤ 127) ∧ (-128 ≤ l.s ∧ l.s ≤ 127) ∧ -128 ≤ l.h ∧ l.h ≤ 127
def ltLy (L : List Ly) : Prop := ∀ l ∈ L, ltLy1 l
def lAt (L : List Ly) (i : Nat) : Ly := L.getD i zeroLy
theorem lAt_get {L : List Ly} {i : Nat} (h : i < L.length) : L[i]? = some (lAt L i) := by
  unfold lAt
  rw [List.getD_eq_getElem?_getD, List.getElem?_eq_getElem h]; rfl
theorem zeroLy_lt : ltLy1 zeroLy := ⟨zeroF_lt, zeroF_lt, by simp [zeroLy], by simp [zeroLy], by simp [zeroLy]⟩
theorem lAt_lt {L : List Ly} (h : ltLy L) (i : Nat) : ltLy1 (lAt L i) := by
  by_cases hi : i < L.length
  · exact h _ (List.mem_of_getElem? (lAt_get hi))
  · unfold lAt
    rw [List.getD_eq_getElem?_getD, List.getElem?_eq_none (by omega)]
    exact zeroLy_lt
/-- A layer lies in block b from offset o on. -/
structure LayIn (w : World) (b o : Nat) (l : Ly) : Prop where
  cel : CelIn w b o l.i l.k
  e : w.cell? ⟨b, o + 24, none⟩ = some (.int .i8 l.e)
  s : w.cell? ⟨b, o + 25, none⟩ = some (.int .i8 l.s)
  h : w.cell? ⟨b, o + 26, none⟩ = some (.int .i8 l.h)
theorem layIn {w : World} {b o : Nat} {l : Ly} (h : w.rangeAt b o (eLy.c l)) : LayIn w b o l :=
  ⟨celIn_range (fun j v hv => h j v (by
      show (LC l).toList[j]? = some v
      rw [LC_list, List.getElem?_append_left ((List.getElem?_eq_some_iff.1 hv).1)]; exact hv)),
    h 24 _ rfl, h 25 _ rfl, h 26 _ rfl⟩
theorem LayIn.below {B : Nat} {w w' : World} {b o : Nat} {l : Ly} (h : LayIn w b o l) (hb : Below B w w') (hlt : b < B) : LayIn w' b o l :=
  ⟨h.cel.below hb hlt, (World.cell?_of_block (w := w) (a := ⟨b, o + 24, none⟩) (hb.block b hlt)).trans h.e, (World.cell?_of_block (w := w) (a := ⟨b, o + 25, none⟩) (hb.block b hlt)).trans h.s, (World.cell?_of_block (w := w) (a := ⟨b, o + 26, none⟩) (hb.block b hlt)).trans h.h⟩
/-- Block g is a layer. -/
def LayAt (w : World) (g : Nat) (t : TypeId) (l : Ly) : Prop := Row w g t (LC l)
section
variable {w w' : World} {g : Nat} {t : TypeId} {l : Ly}
theorem LayAt.new (w : World) (t : TypeId) (l : Ly) : LayAt (w.alloc (.cells (LC l) t)) w.heap.size t l := Row.new w t _
theorem LayAt.lt (h : LayAt w g t l) : g < w.heap.size := Row.lt h
theorem LayAt.alloc (h : LayAt w g t l) (o : Obj) : LayAt (w.alloc o) g t l := Row.alloc h o
theorem LayAt.below {B : Nat} (h : LayAt w g t l) (hb : Below B w w') (hg : g < B) : LayAt w' g t l := Row.below h hb hg
theorem LayAt.wrote {B : Nat} (h : LayAt w g t l) (hb : Wrote B w w') (hg : g ≠ B) : LayAt w' g t l := hb.row h hg
theorem LayAt.range (h : LayAt w g t l) : w.rangeAt g 0 (eLy.c l) := fun j v hv => by rw [Nat.zero_add, Row.cell h]; simpa [eLy] using hv
theorem LayAt.cells (h : LayAt w g t l) : LayIn w g 0 l := layIn h.range
theorem LayAt.e (h : LayAt w g t l) : w.cell? ⟨g, 24, none⟩ = some (.int .i8 l.e) := h.cells.e
theorem LayAt.s (h : LayAt w g t l) : w.cell? ⟨g, 25, none⟩ = some (.int .i8 l.s) := h.cells.s
theorem LayAt.h (h : LayAt w g t l) : w.cell? ⟨g, 26, none⟩ = some (.int .i8 l.h) := h.cells.h
theorem LayAt.cel (h : LayAt w g t l) : CelIn w g 0 l.i l.k := h.cells.cel
theorem LayAt.free (h : LayAt w g t l) (k : Nat) : w.frozen? ⟨g, k, none⟩ = false := Row.free h k
theorem LayAt.setE (h : LayAt w g t l) (x : Int) : LayAt (w.setCell ⟨g, 24, none⟩ (.int .i8 x)) g t ⟨l.i, l.k, x, l.s, l.h⟩ := Row.set h 24 _
theorem LayAt.setS (h : LayAt w g t l) (x : Int) : LayAt (w.setCell ⟨g, 25, none⟩ (.int .i8 x)) g t ⟨l.i, l.k, l.e, x, l.h⟩ := Row.set h 25 _
theorem LayAt.setH (h : LayAt w g t l) (x : Int) : LayAt (w.setCell ⟨g, 26, none⟩ (.int .i8 x)) g t ⟨l.i, l.k, l.e, l.s, x⟩ := Row.set h 26 _
theorem LayAt.setRow (h : LayAt w g t l) (l' : Ly) : LayAt (w.setRow g (LC l')) g t l' := Row.setRow h _
theorem LayAt.there (h : LayAt w g t l) : w.there g 0 24 := fun j hj => by
  refine ⟨?_, Row.free h _⟩
  have hlt : 0 + j < (LC l).size := by show 0 + j < 27; omega
  rw [Row.cell h, Array.getElem?_eq_getElem hlt]
  rfl
theorem LayAt.setCel (h : LayAt w g t l) (i k : Nat → Nat) : LayAt (w.setCells g 0 (CC i k).toList) g t ⟨i, k, l.e, l.s, l.h⟩ := by
  have h1 := Row.setCells (CC i k).toList 0 _ w h (by show 0 + 24 ≤ 27; omega)
  exact h1
end
section
variable {P : Program} {ops : Array Oper} {rest : List Oper} {o : Oper} {a : Act} {w : World} {Q : Exit → Act → World → Prop} {g : Nat} {t : TypeId} {l : Ly}
theorem wpList_load_lay (hgd : o.guard = none) (ty : TypeId) (x : Operand) (ho : o.op = .load ty x) (hx : a.eval x = .pointer (some ⟨g, 0, none⟩)) (hb : LayAt w g t l) {d : TypeDesc} (hu : P.underlying ty = some d) (hd : d.isRow = true) (hi : (P.info? ty).map (·.size) = some 27)
    (h : wpList P ops Q rest (a.put o.dst (.agg (LC l))) w) : wpList P ops Q (o :: rest) a w :=
  wpList_load_row hgd ty x ho g hx t (LC l) (0, 0) d hb hu (by cases d <;> simp_all [TypeDesc.isRow]) hi h
theorem wpList_load_layIn (hgd : o.guard = none) (ty : TypeId) (x : Operand) (ho : o.op = .load ty x) (b off : Nat) (hx : a.eval x = .pointer (some ⟨b, off, none⟩)) (hb : w.rangeAt b off (eLy.c l)) {d : TypeDesc} (hu : P.underlying ty = some d) (hd : d.isRow = true) (hi : (P.info? ty).map (·.size) = some 27)
    (h : wpList P ops Q rest (a.put o.dst (.agg (LC l))) w) : wpList P ops Q (o :: rest) a w :=
  wpList_load_mid hgd ty x ho b off hx (LC l).toList d hb hu hd hi h
theorem wpList_store_lay (hgd : o.guard = none) (ty : TypeId) (x y : Operand) (ho : o.op = .store ty x y) {l0 : Ly} (hb : LayAt w g t l0) (hx : a.eval x = .pointer (some ⟨g, 0, none⟩)) (hy : a.eval y = .agg (LC l)) (hi : (P.info? ty).map (·.size) = some 27)
    (h : LayAt (w.setRow g (LC l)) g t l → wpList P ops Q rest (a.put o.dst undef) (w.setRow g (LC l))) : wpList P ops Q (o :: rest) a w :=
  wpList_store_row hgd ty x y ho g hx hb hy rfl (LC_one l) hi (h (hb.setRow l))
/-- A layer's cel is stored. -/
theorem wpList_store_layCel (hgd : o.guard = none) (ty : TypeId) (x y : Operand) (ho : o.op = .store ty x y) (hb : LayAt w g t l) (hx : a.eval x = .pointer (some ⟨g, 0, none⟩)) {i k : Nat → Nat} (hy : a.eval y = .agg (CC i k)) (hi : (P.info? ty).map (·.size) = some 24)
    (h : LayAt (w.setCells g 0 (CC i k).toList) g t ⟨i, k, l.e, l.s, l.h⟩ → Wrote g w (w.setCells g 0 (CC i k).toList) → wpList P ops Q rest (a.put o.dst undef) (w.setCells g 0 (CC i k).toList)) : wpList P ops Q (o :: rest) a w :=
  wpList_store_mid hgd ty x y ho g 0 (CC i k) hx hy hb.there hi (Array.all_eq_true_iff_forall_mem.2 fun v hv => CC_one i k v (Array.mem_toList_iff.2 hv)) (h (hb.setCel i k) (Wrote.setCells _ _ _ (Wrote.refl g w)))
/-- A cel is stored into the block that has just been laid. -/
theorem wpList_store_celNew (hgd : o.guard = none) (ty : TypeId) (x y : Operand) (ho : o.op = .store ty x y) {i0 k0 i k : Nat → Nat} (hx : a.eval x = .pointer (some ⟨w.heap.size, 0, none⟩))
    (hy : a.eval y = .agg (CC i k)) (hi : (P.info? ty).map (·.size) = some 24) (h : wpList P ops Q rest (a.put o.dst undef) (w.alloc (.cells (CC i k) t))) : wpList P ops Q (o :: rest) a (w.alloc (.cells (CC i0 k0) t)) :=
  wpList_store_cel hgd ty x y ho (CelAt.new w t i0 k0) hx hy hi (fun _ => by rw [setRow_new]; exact h)
theorem wpList_store_layNew (hgd : o.guard = none) (ty : TypeId) (x y : Operand) (ho : o.op = .store ty x y) {l0 : Ly} (hx : a.eval x = .pointer (some ⟨w.heap.size, 0, none⟩))
    (hy : a.eval y = .agg (LC l)) (hi : (P.info? ty).map (·.size) = some 27) (h : wpList P ops Q rest (a.put o.dst undef) (w.alloc (.cells (LC l) t))) : wpList P ops Q (o :: rest) a (w.alloc (.cells (LC l0) t)) :=
  wpList_store_lay hgd ty x y ho (LayAt.new w t l0) hx hy hi (fun _ => by rw [setRow_new]; exact h)
end
end Go.Proofs.Ytpmlepgnokbpaaa

/- Go's '==' of cels and of layers. -/
namespace Go.Proofs.Ytpmlepgnokbpaaa
open Go.RowKit
set_option linter.unusedVariables false
set_option linter.unusedSimpArgs false
def eqLy (l m : Ly) : Bool := (eqF l.i m.i && eqF l.k m.k) && (l.e == m.e && (l.s == m.s && l.h == m.h))
theorem eqLy_refl (l : Ly) : eqLy l l = true := by simp [eqLy, eqF_refl]
set_option maxRecDepth 100000 in
theorem run_equalIn_fr (w : World) (d : Nat) (f g : Nat → Nat) : (Op.equalIn (d + 2) 27 (.agg (FC f)) (.agg (FC g))).run Try.prog w = .ok (eqF f g) w := by
  obtain ⟨i0, hi0⟩ : ∃ i, Try.prog.info? 22 = some i := ⟨_, rfl⟩
  rw [run_equalIn_array w (d + 1) _ _ Try.underlying27 hi0, show Try.prog.cellsOf 22 = 1 by kernel_rfl]
  exact run_eqItems_fr w d f g (by kernel_rfl) Try.underlying22 _ (by simp)
theorem part_ink (i k : Nat → Nat) (w : World) : (part 27 (CC i k) 0).run Try.prog w = .ok (.agg (FC i)) w := by kernel_rfl
theorem part_cov (i k : Nat → Nat) (w : World) : (part 27 (CC i k) 12).run Try.prog w = .ok (.agg (FC k)) w := by kernel_rfl
theorem run_equalIn_cel (w : World) (d : Nat) (i k i2 k2 : Nat → Nat) : (Op.equalIn (d + 3) 29 (.agg (CC i k)) (.agg (CC i2 k2))).run Try.prog w = .ok (eqF i i2 && eqF k k2) w := by
  rw [run_equalIn_struct (P := Try.prog) w (d + 2) 29 _ _ (by kernel_rfl) (by kernel_rfl)]
  simp only [Program.fieldsOf, Try.underlying29, Op.eqFields]
  simp only [Sem.run_bind, part_ink, part_cov, Result.andThen_ok, run_equalIn_fr, Sem.run_ite]
  cases eqF i i2 <;> cases eqF k k2 <;> rfl
theorem part_layCel (l : Ly) (w : World) : (part 29 (LC l) 0).run Try.prog w = .ok (.agg (CC l.i l.k)) w := by kernel_rfl
theorem part_layE (l : Ly) (w : World) : (part 67 (LC l) 24).run Try.prog w = .ok (.int .i8 l.e) w := by kernel_rfl
theorem part_layS (l : Ly) (w : World) : (part 67 (LC l) 25).run Try.prog w = .ok (.int .i8 l.s) w := by kernel_rfl
theorem part_layH (l : Ly) (w : World) : (part 67 (LC l) 26).run Try.prog w = .ok (.int .i8 l.h) w := by kernel_rfl
theorem run_equalIn_lay (w : World) (d : Nat) (l m : Ly) : (Op.equalIn (d + 4) 86 (.agg (LC l)) (.agg (LC m))).run Try.prog w = .ok (eqLy l m) w := by
  rw [run_equalIn_struct (P := Try.prog) w (d + 3) 86 _ _ (by kernel_rfl) (by kernel_rfl)]
  simp only [Program.fieldsOf, Try.underlying86, Op.eqFields]
  simp only [Sem.run_bind, part_layCel, part_layE, part_layS, part_layH, Result.andThen_ok, run_equalIn_cel, run_equalIn_int _ _ _ _ _ _ _ Try.underlying67, Sem.run_ite]
  unfold eqLy
  cases eqF l.i m.i <;> cases eqF l.k m.k <;> cases l.e == m.e <;> cases l.s == m.s <;> cases l.h == m.h <;> rfl
theorem run_neq_lay (w : World) (l m : Ly) : (binOp .neq 86 (.agg (LC l)) (.agg (LC m))).run Try.prog w = .ok (.bool (!eqLy l m)) w := by
  rw [run_neq_struct, run_equalIn_lay]; rfl
theorem run_eql_cel (w : World) (i k i2 k2 : Nat → Nat) : (binOp .eql 29 (.agg (CC i k)) (.agg (CC i2 k2))).run Try.prog w = .ok (.bool (eqF i i2 && eqF k k2)) w := by
  rw [run_eql_struct, run_equalIn_cel]; rfl
end Go.Proofs.Ytpmlepgnokbpaaa

/- Dots that are put into a frame, one after the other: the bits of the result. Moved and rolled frames. Plain mathematics. -/
namespace Go.Proofs.Ytpmlepgnokbpaaa
theorem testBit_putF (f : Nat → Nat) (x y : Int) (Y X : Nat) : (putF f x y Y).testBit X = ((f Y).testBit X || (plB x y && decide (x = X ∧ y = Y))) := by
  unfold putF
  cases hp : plB x y with
  | false => simp
  | true =>
    have h1 := plB_iff.1 hp
    simp only [if_true, Bool.true_and]
    unfold upd
    by_cases e : Y = y.toNat
    · subst e
      rw [if_pos rfl, Nat.testBit_or, Nat.testBit_two_pow]
      congr 1
      apply Bool.eq_iff_iff.2
      simp only [decide_eq_true_eq]
      omega
    · rw [if_neg e]
      have : ¬ (x = (X : Int) ∧ y = (Y : Int)) := by omega
      simp [this]
def putAll (l : List (Int × Int)) (g : Nat → Nat) : Nat → Nat := l.foldl (fun g d => putF g d.1 d.2) g
theorem putAll_snoc (l : List (Int × Int)) (d : Int × Int) (g : Nat → Nat) : putAll (l ++ [d]) g = putF (putAll l g) d.1 d.2 := by simp [putAll]
theorem testBit_putAll (l : List (Int × Int)) (g : Nat → Nat) (Y X : Nat) : (putAll l g Y).testBit X = ((g Y).testBit X || l.any fun d => plB d.1 d.2 && decide (d.1 = X ∧ d.2 = Y)) := by
  unfold putAll
  induction l generalizing g with
  | nil => simp
  | cons d l ih => rw [List.foldl_cons, ih, testBit_putF, List.any_cons, Bool.or_assoc]
theorem putF_lt {f : Nat → Nat} (hf : ∀ k, f k < 65536) (x y : Int) (k : Nat) : putF f x y k < 65536 := by
  unfold putF
  split
  · rename_i hp
    have h1 := plB_iff.1 hp
    unfold upd
    split
    · exact Nat.or_lt_two_pow (n := 16) (hf _) (Nat.pow_lt_pow_right (by decide) (by omega))
    · exact hf k
  · exact hf k
theorem putAll_lt (l : List (Int × Int)) {g : Nat → Nat} (hg : ∀ k, g k < 65536) (k : Nat) : putAll l g k < 65536 := by
  unfold putAll
  induction l generalizing g with
  | nil => exact hg k
  | cons d l ih => exact ih (putF_lt hg d.1 d.2)
/-- Two frames with the same dots are one. -/
theorem frame_ext {f g : Nat → Nat} (h : ∀ y, y < 12 → ∀ x, (f y).testBit x = (g y).testBit x) : ∀ y, y < 12 → f y = g y := fun y hy => Nat.eq_of_testBit_eq (h y hy)
theorem ok_bit {f : Nat → Nat} (h : okF f = true) {y : Nat} (hy : y < 12) {x : Nat} (hx : 12 ≤ x) : (f y).testBit x = false :=
  Nat.testBit_lt_two_pow (Nat.lt_of_le_of_lt (okF_iff.1 h y hy) (Nat.lt_of_lt_of_le (show 4095 < 2 ^ 12 by decide) (Nat.pow_le_pow_right (by decide) hx)))
/-- spec: each dot is put where it goes. -/
def movedS (f : Nat → Nat) (e s : Int) : Nat → Nat := putAll ((dots f).map fun d => ((d.1 : Int) + e, (d.2 : Int) + s)) zeroF
/-- impl: a row moved. -/
def movedRow (r : Nat) (e : Int) : Nat := if e < 0 then r / 2 ^ (-e).toNat else r * 2 ^ e.toNat % 4096
def movedI (f : Nat → Nat) (e s : Int) (m : Int) : Nat → Nat := fun t => if 0 ≤ (t : Int) - s ∧ (t : Int) - s < m then movedRow (f ((t : Int) - s).toNat) e else 0
theorem movedRow_lt {r : Nat} (hr : r < 65536) (e : Int) : movedRow r e < 65536 := by
  unfold movedRow
  split
  · exact Nat.lt_of_le_of_lt (Nat.div_le_self _ _) hr
  · have := Nat.mod_lt (r * 2 ^ e.toNat) (show 4096 > 0 by decide); omega
theorem testBit_movedRow {r : Nat} (hr : r ≤ 4095) (e : Int) (x : Nat) : (movedRow r e).testBit x = (decide (x < 12) && decide (0 ≤ (x : Int) - e) && r.testBit ((x : Int) - e).toNat) := by
  have hb : ∀ i, 12 ≤ i → r.testBit i = false := fun i hi =>
    Nat.testBit_lt_two_pow (Nat.lt_of_le_of_lt hr (Nat.lt_of_lt_of_le (show 4095 < 2 ^ 12 by decide) (Nat.pow_le_pow_right (by decide) hi)))
  unfold movedRow
  split
  · rename_i he
    rw [Nat.testBit_div_two_pow, show x + (-e).toNat = ((x : Int) - e).toNat by omega]
    have h0 : decide (0 ≤ (x : Int) - e) = true := by simp; omega
    rw [h0]
    by_cases hx : x < 12
    · simp [hx]
    · rw [hb _ (by omega)]; simp
  · rename_i he
    rw [show 4096 = 2 ^ 12 by rfl, Nat.testBit_mod_two_pow, Nat.testBit_mul_two_pow]
    by_cases h2 : 0 ≤ (x : Int) - e
    · have h1 : e.toNat ≤ x := by omega
      rw [show ((x : Int) - e).toNat = x - e.toNat by omega, decide_eq_true h2, decide_eq_true h1]
      simp
    · have h1 : ¬ e.toNat ≤ x := by omega
      rw [decide_eq_false h2, decide_eq_false h1]
      simp
theorem moved_eq {f : Nat → Nat} (h : okF f = true) (e s : Int) : ∀ y, y < 12 → movedS f e s y = movedI f e s 12 y := by
  refine frame_ext fun y hy x => ?_
  unfold movedS movedI
  rw [testBit_putAll, show (zeroF y).testBit x = false from Nat.zero_testBit x, Bool.false_or]
  apply Bool.eq_iff_iff.2
  rw [List.any_eq_true]
  constructor
  · rintro ⟨d, hd, hb⟩
    obtain ⟨d0, hd0, rfl⟩ := List.mem_map.1 hd
    simp only [Bool.and_eq_true, decide_eq_true_eq] at hb
    obtain ⟨hp, hx, hy'⟩ := hb
    have hp := plB_iff.1 hp
    obtain ⟨m1, m2, m3⟩ := mem_dots.1 hd0
    rw [if_pos (by omega), testBit_movedRow (okF_iff.1 h _ (by omega))]
    simp only [Bool.and_eq_true, decide_eq_true_eq]
    refine ⟨⟨by omega, by omega⟩, ?_⟩
    rw [show ((y : Int) - s).toNat = d0.2 by omega, show ((x : Int) - e).toNat = d0.1 by omega]
    exact m3
  · intro hb
    split at hb
    · rename_i hr
      rw [testBit_movedRow (okF_iff.1 h _ (by omega))] at hb
      simp only [Bool.and_eq_true, decide_eq_true_eq] at hb
      obtain ⟨⟨h1, h2⟩, h3⟩ := hb
      have h4 : ((x : Int) - e).toNat < 12 := by
        rcases Nat.lt_or_ge ((x : Int) - e).toNat 12 with hl | hl
        · exact hl
        · rw [ok_bit h (y := ((y : Int) - s).toNat) (by omega) hl] at h3; cases h3
      refine ⟨_, List.mem_map.2 ⟨(((x : Int) - e).toNat, ((y : Int) - s).toNat), mem_dots.2 ⟨h4, by show ((y : Int) - s).toNat < 12; omega, h3⟩, rfl⟩, ?_⟩
      simp only [Bool.and_eq_true, decide_eq_true_eq]
      refine ⟨plB_iff.2 (by omega), by omega, by omega⟩
    · rw [Nat.zero_testBit] at hb; cases hb
def rolledRow (r : Nat) (e : Int) : Nat := movedRow r e ||| movedRow r (e - 12)
def rolledI (f : Nat → Nat) (e s : Int) (m : Int) : Nat → Nat := fun t => if ((t : Int) - s) % 12 < m then rolledRow (f (((t : Int) - s) % 12).toNat) (e % 12) else 0
def rolledS (f : Nat → Nat) (e s : Int) : Nat → Nat := putAll ((dots f).map fun d => (((d.1 : Int) + e) % 12, ((d.2 : Int) + s) % 12)) zeroF
theorem testBit_rolledRow {r : Nat} (hr : r ≤ 4095) {e : Int} (h0 : 0 ≤ e) (h1 : e < 12) (x : Nat) : (rolledRow r e).testBit x = (decide (x < 12) && r.testBit (((x : Int) - e) % 12).toNat) := by
  have hb : ∀ i, 12 ≤ i → r.testBit i = false := fun i hi =>
    Nat.testBit_lt_two_pow (Nat.lt_of_le_of_lt hr (Nat.lt_of_lt_of_le (show 4095 < 2 ^ 12 by decide) (Nat.pow_le_pow_right (by decide) hi)))
  unfold rolledRow
  rw [Nat.testBit_or, testBit_movedRow hr, testBit_movedRow hr]
  by_cases hx : x < 12
  · rw [decide_eq_true hx]
    have h3 : 0 ≤ (x : Int) - (e - 12) := by omega
    rw [decide_eq_true h3]
    by_cases h2 : 0 ≤ (x : Int) - e
    · rw [decide_eq_true h2, hb ((x : Int) - (e - 12)).toNat (by omega), show (((x : Int) - e) % 12).toNat = ((x : Int) - e).toNat by omega]
      simp
    · rw [decide_eq_false h2, show (((x : Int) - e) % 12).toNat = ((x : Int) - (e - 12)).toNat by omega]
      simp
  · rw [decide_eq_false hx]; simp
theorem rolled_eq {f : Nat → Nat} (h : okF f = true) (e s : Int) : ∀ y, y < 12 → rolledS f e s y = rolledI f e s 12 y := by
  refine frame_ext fun y hy x => ?_
  unfold rolledS rolledI
  rw [testBit_putAll, show (zeroF y).testBit x = false from Nat.zero_testBit x, Bool.false_or, if_pos (by omega),
    testBit_rolledRow (okF_iff.1 h _ (by omega)) (by omega) (by omega)]
  apply Bool.eq_iff_iff.2
  rw [List.any_eq_true]
  simp only [Bool.and_eq_true, decide_eq_true_eq]
  constructor
  · rintro ⟨d, hd, hp, hx, hy'⟩
    obtain ⟨d0, hd0, rfl⟩ := List.mem_map.1 hd
    simp only at hp hx hy'
    have hp := plB_iff.1 hp
    obtain ⟨m1, m2, m3⟩ := mem_dots.1 hd0
    refine ⟨by omega, ?_⟩
    rw [show (((y : Int) - s) % 12).toNat = d0.2 by omega, show (((x : Int) - e % 12) % 12).toNat = d0.1 by omega]
    exact m3
  · rintro ⟨h1, h3⟩
    refine ⟨_, List.mem_map.2 ⟨((((x : Int) - e % 12) % 12).toNat, (((y : Int) - s) % 12).toNat), mem_dots.2 ⟨by show (((x : Int) - e % 12) % 12).toNat < 12; omega, by show (((y : Int) - s) % 12).toNat < 12; omega, h3⟩, rfl⟩, ?_⟩
    refine ⟨plB_iff.2 ?_, ?_, ?_⟩
    · simp only; omega
    · simp only; omega
    · simp only; omega
end Go.Proofs.Ytpmlepgnokbpaaa
