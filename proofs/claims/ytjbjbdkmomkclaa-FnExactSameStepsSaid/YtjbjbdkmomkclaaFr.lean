/- FRAMES AS ROWS OF TWELVE uint16: the values, the blocks that hold them, the walk's laws for whole rows; how an argument of that type is opened. Plain lemmas: no function of the program is named. -/
import Derived.Test.YtjbjbdkmomkclaaMath
import Derived.Test.YtjbjbdkmomkclaaQuiet
import Derived.WalkKit
import Derived.WalkSpells
import Derived.WalkLawsBesides
import Derived.Deep.Light
import Derived.ProofKit
import Derived.Lib.Hide
import Derived.Lib.QuietBelow
import Derived.ChangeKeysEq
import Derived.RegionTactic
import Derived.BigQuiet
import Derived.Deep.QuietTactic
import Derived.OpenShut
namespace Go.Proofs.Ytjbjbdkmomkclaa
open Go.RowKit
def FC (f : Nat → Nat) : Array Value := #[.int .u16 (f 0), .int .u16 (f 1), .int .u16 (f 2), .int .u16 (f 3), .int .u16 (f 4), .int .u16 (f 5), .int .u16 (f 6), .int .u16 (f 7), .int .u16 (f 8), .int .u16 (f 9), .int .u16 (f 10), .int .u16 (f 11)]
theorem ret_bool {a b : Bool} (h : a = b) : Ending.returned (.bool a) = .returned (.bool b) := by rw [h]
theorem ret_int {k : IntKind} {a b : Int} (h : a = b) : Ending.returned (.int k a) = .returned (.int k b) := by rw [h]
theorem FC_size (f : Nat → Nat) : (FC f).size = 12 := rfl
theorem lt12 {k : Nat} (h : k < 12) : k = 0 ∨ k = 1 ∨ k = 2 ∨ k = 3 ∨ k = 4 ∨ k = 5 ∨ k = 6 ∨ k = 7 ∨ k = 8 ∨ k = 9 ∨ k = 10 ∨ k = 11 := by omega
theorem FC_get (f : Nat → Nat) {k : Nat} (h : k < 12) : (FC f)[k]? = some (.int .u16 (f k)) := by
  rcases lt12 h with rfl | rfl | rfl | rfl | rfl | rfl | rfl | rfl | rfl | rfl | rfl | rfl <;> rfl
theorem FC_ext {f g : Nat → Nat} (h : ∀ k, k < 12 → f k = g k) : FC f = FC g := by
  unfold FC
  rw [h 0 (by omega), h 1 (by omega), h 2 (by omega), h 3 (by omega), h 4 (by omega), h 5 (by omega), h 6 (by omega), h 7 (by omega), h 8 (by omega), h 9 (by omega), h 10 (by omega), h 11 (by omega)]
theorem FC_set (f : Nat → Nat) {k : Nat} (n : Nat) (h : k < 12) : (FC f).setIfInBounds k (.int .u16 n) = FC (upd f k n) := by
  rcases lt12 h with rfl | rfl | rfl | rfl | rfl | rfl | rfl | rfl | rfl | rfl | rfl | rfl <;> rfl
/-- Block g is a row of twelve uint16. -/
def Blk (w : World) (g : Nat) (t : TypeId) (f : Nat → Nat) : Prop := w.heap[g]? = some (.cells (FC f) t (0, 0))
theorem Blk.cell {w : World} {g : Nat} {t : TypeId} {f : Nat → Nat} (h : Blk w g t f) {k : Nat} (hk : k < 12) : w.cell? ⟨g, k, none⟩ = some (.int .u16 (f k)) := by
  rw [cell_of_row w g k _ t _ h, FC_get f hk]
theorem Blk.free {w : World} {g : Nat} {t : TypeId} {f : Nat → Nat} (h : Blk w g t f) (k : Nat) : w.frozen? ⟨g, k, none⟩ = false := frozen_of_row w g k _ t h
theorem Blk.set {w : World} {g : Nat} {t : TypeId} {f : Nat → Nat} (h : Blk w g t f) {k : Nat} (hk : k < 12) (n : Nat) : Blk (w.setCell ⟨g, k, none⟩ (.int .u16 n)) g t (upd f k n) := by
  unfold Blk; rw [← FC_set f n hk]; exact heap_setCell_same w g k _ t _ h
theorem Blk.other {w : World} {g : Nat} {t : TypeId} {f : Nat → Nat} (h : Blk w g t f) {a : Addr} (v : Value) (hn : g ≠ a.block) : Blk (w.setCell a v) g t f := by
  unfold Blk; rw [heap_setCell_other w a g v hn]; exact h
theorem Blk.alloc {w : World} {g : Nat} {t : TypeId} {f : Nat → Nat} (h : Blk w g t f) (o : Obj) : Blk (w.alloc o) g t f := by
  have hlt : g < w.heap.size := (Array.getElem?_eq_some_iff.1 h).1
  unfold Blk; rw [Below.heap_alloc w o g hlt]; exact h
theorem Blk.new (w : World) (t : TypeId) (f : Nat → Nat) : Blk (w.alloc (.cells (FC f) t)) w.heap.size t f := heap_alloc_new w _
theorem Blk.ext {w : World} {g : Nat} {t : TypeId} {f f' : Nat → Nat} (h : Blk w g t f) (hf : ∀ k, k < 12 → f k = f' k) : Blk w g t f' := by
  unfold Blk; rw [← FC_ext hf]; exact h
theorem Blk.below {B : Nat} {w w' : World} {g : Nat} {t : TypeId} {f : Nat → Nat} (h : Blk w g t f) (hb : Below B w w') (hg : g < B) : Blk w' g t f := by
  unfold Blk; rw [hb.block g hg]; exact h
theorem Blk.lt {w : World} {g : Nat} {t : TypeId} {f : Nat → Nat} (h : Blk w g t f) : g < w.heap.size := (Array.getElem?_eq_some_iff.1 h).1
theorem FC_zero : FC zeroF = #[.int .u16 0, .int .u16 0, .int .u16 0, .int .u16 0, .int .u16 0, .int .u16 0, .int .u16 0, .int .u16 0, .int .u16 0, .int .u16 0, .int .u16 0, .int .u16 0] := rfl


theorem FC_one (f : Nat → Nat) : ∀ v ∈ (FC f).toList, v.oneCell' = true := by
  intro v hv
  simp only [FC, List.mem_cons, List.not_mem_nil, or_false] at hv
  rcases hv with rfl | rfl | rfl | rfl | rfl | rfl | rfl | rfl | rfl | rfl | rfl | rfl <;> rfl
theorem Blk.setRow {w : World} {g : Nat} {t : TypeId} {f0 : Nat → Nat} (h : Blk w g t f0) (f : Nat → Nat) : Blk (w.setRow g (FC f)) g t f := setRow_heap w g _ _ t _ h
theorem Blk.setRowOther {w : World} {g g' : Nat} {t : TypeId} {f : Nat → Nat} (h : Blk w g t f) (cs : Array Value) (hn : g ≠ g') : Blk (w.setRow g' cs) g t f := by
  unfold Blk; rw [setRow_other w g' g cs hn]; exact h
section
variable {P : Program} {ops : Array Oper} {rest : List Oper} {o : Oper} {a : Act} {w : World} {Q : Exit → Act → World → Prop}
theorem wpList_load_fr (hgd : o.guard = none) (ty e : TypeId) (x : Operand) (ho : o.op = .load ty x) (g : Nat) (hx : a.eval x = .pointer (some ⟨g, 0, none⟩)) {t : TypeId} {f : Nat → Nat} (hb : Blk w g t f)
    (hu : P.underlying ty = some (.array 12 e)) (hi : (P.info? ty).map (·.size) = some 12) (h : wpList P ops Q rest (a.put o.dst (.agg (FC f))) w) : wpList P ops Q (o :: rest) a w :=
  wpList_load_row hgd ty x ho g hx t (FC f) (0, 0) (.array 12 e) hb hu rfl hi h
/-- The same under a guard that is met. -/
theorem wpList_load_frG (hw : Region.wanted o (yielded ops a.tmps) = true) (ty e : TypeId) (x : Operand) (ho : o.op = .load ty x) (g : Nat) (hx : a.eval x = .pointer (some ⟨g, 0, none⟩)) {t : TypeId} {f : Nat → Nat} (hb : Blk w g t f)
    (hu : P.underlying ty = some (.array 12 e)) (hi : (P.info? ty).map (·.size) = some 12) (h : wpList P ops Q rest (a.put o.dst (.agg (FC f))) w) : wpList P ops Q (o :: rest) a w :=
  wpList_step fun K hK => by
    rw [if_pos hw]
    exact wp_load_row ty x ho g hx t (FC f) (0, 0) (.array 12 e) hb hu rfl hi (hK _ _ h)
theorem run_storeVar_fr (w : World) (g : Nat) (t ty : TypeId) (f0 f : Nat → Nat) (hb : Blk w g t f0) (hi : (P.info? ty).map (·.size) = some 12) :
    (storeVar ty ⟨g, 0, none⟩ (.agg (FC f))).run P w = .ok () (w.setRow g (FC f)) := by
  have h1 := run_storeCells_at P g 0 t (FC f).toList 0 (FC f0) w hb (by simp [FC_size]) (FC_one f)
  cases hq : P.info? ty with
  | none => simp [hq] at hi
  | some i =>
    have hs : i.size = 12 := by simpa [hq] using hi
    have hcs : (Value.agg (FC f)).cells = FC f := rfl
    simp only [storeVar, Sem.run_bind, sizeOf, typeInfo, hcs, FC_size]
    simp [hq, hs, h1, FC_size]
    congr 1
theorem wpList_store_fr (hgd : o.guard = none) (ty : TypeId) (x y : Operand) (ho : o.op = .store ty x y) (g : Nat) (hx : a.eval x = .pointer (some ⟨g, 0, none⟩)) {t : TypeId} {f0 f : Nat → Nat} (hb : Blk w g t f0)
    (hy : a.eval y = .agg (FC f)) (hi : (P.info? ty).map (·.size) = some 12) (h : wpList P ops Q rest (a.put o.dst undef) (w.setRow g (FC f))) : wpList P ops Q (o :: rest) a w :=
  wpList_plain hgd fun K hK => by
    unfold Oper.wp execOp
    simp only [ho, hx, hy, Instr.storeAt, Instr.sureAddr, Sem.run_bind, Sem.run_pure, Result.andThen_ok, run_storeVar_fr w g t ty f0 f hb hi]
    exact hK _ _ h
end
theorem below_setRow {B g : Nat} {w0 w : World} (hb : Below B w0 w) (hBg : B ≤ g) (cs : Array Value) : Below B w0 (w.setRow g cs) :=
  hb.trans ⟨rfl, rfl, rfl, by simp [World.setRow], fun k hk => setRow_other w g k cs (by omega)⟩
theorem run_results_fr {P : Program} {fn : Func} {p : Tmp} {ty e : TypeId} (h : fn.results = #[.cell p ty]) {tmps : Array Value} {w : World} {g : Nat} {t : TypeId} {f : Nat → Nat}
    (hp : tmps.getD p undef = .pointer (some ⟨g, 0, none⟩)) (hb : Blk w g t f) (hu : P.underlying ty = some (.array 12 e)) (hi : (P.info? ty).map (·.size) = some 12) :
    (results fn tmps).run P w = .ok (.agg (FC f)) w := results_cell_row h tmps w g t (FC f) (0, 0) _ hp hb hu rfl hi
theorem bodyPost_ret_fr {P : Program} {fn : Func} {R : Ending → World → Prop} {a : Act} {w : World} {p : Tmp} {ty e : TypeId} (h : fn.results = #[.cell p ty]) {g : Nat} {t : TypeId} {f : Nat → Nat}
    (hp : a.tmps.getD p undef = .pointer (some ⟨g, 0, none⟩)) (hb : Blk w g t f) (hu : P.underlying ty = some (.array 12 e)) (hi : (P.info? ty).map (·.size) = some 12)
    (hd : a.defers = []) (hR : R (.returned (.agg (FC f))) w) : bodyPost P fn R .ret a w := bodyPost_ret (run_results_fr h hp hb hu hi) hd hR
theorem bodyPost_ret_fr2 {P : Program} {fn : Func} {R : Ending → World → Prop} {a : Act} {w : World} {p u : Tmp} {ty e : TypeId} (h : fn.results = #[.cell p ty, .tmp u]) {g : Nat} {t : TypeId} {f : Nat → Nat}
    (hp : a.tmps.getD p undef = .pointer (some ⟨g, 0, none⟩)) (hb : Blk w g t f) (hu : P.underlying ty = some (.array 12 e)) (hi : (P.info? ty).map (·.size) = some 12)
    (hd : a.defers = []) (hR : R (.returned (.tuple #[.agg (FC f), a.tmps.getD u undef])) w) : bodyPost P fn R .ret a w := by
  refine bodyPost_ret ?_ hd hR
  rw [results_cell_tmp h, hp]
  simp only [asAddr, Sem.run_pure, Result.andThen_ok, run_loadVar_row w g t ty (FC f) (0, 0) _ hb hu rfl hi]

theorem not_testBit {b : Nat} (hb : b < 65536) (i : Nat) : (65535 - b).testBit i = (decide (i < 16) && !b.testBit i) := by
  have := Nat.testBit_two_pow_sub_succ (n := 16) (x := b) hb i
  rw [show 2 ^ 16 - (b + 1) = 65535 - b by omega] at this
  exact this
theorem clr_or {a x : Nat} (ha : a < 65536) (hx : x < 16) : (a &&& (65535 - 2 ^ x)) ||| 2 ^ x = a ||| 2 ^ x := by
  apply Nat.eq_of_testBit_eq
  intro i
  rw [Nat.testBit_or, Nat.testBit_and, not_testBit (Nat.pow_lt_pow_right (by decide) hx), Nat.testBit_or, Nat.testBit_two_pow]
  by_cases hi : i < 16
  · simp only [hi]
    by_cases e : x = i <;> simp [e]
  · have h1 : a.testBit i = false := Nat.testBit_lt_two_pow (Nat.lt_of_lt_of_le ha (Nat.pow_le_pow_right (n := 2) (i := 16) (by decide) (by omega)))
    simp [h1]
theorem u16_wrap_nat {n : Nat} (h : n < 65536) : IntKind.u16.wrap (n : Int) = n := by rw [IntKind.wrap_u16]; omega
theorem pow_lt_16 {x : Nat} (h : x < 16) : 2 ^ x < 65536 := Nat.pow_lt_pow_right (by decide) h
theorem cast_pow (x : Nat) : ((2 : Int) ^ x) = ((2 ^ x : Nat) : Int) := by simp
theorem u16_wrap_pow {x : Nat} (h : x < 16) : IntKind.u16.wrap ((2 : Int) ^ x) = ((2 ^ x : Nat) : Int) := by
  rw [cast_pow, u16_wrap_nat (pow_lt_16 h)]
theorem u16_or_pow {a x : Nat} (ha : a < 65536) (hx : x < 16) : bits .or .u16 (a : Int) (IntKind.u16.wrap ((2 : Int) ^ x)) = ((a ||| 2 ^ x : Nat) : Int) := by
  rw [u16_wrap_pow hx, u16_or_nat a _ ha (pow_lt_16 hx)]
theorem u16_clr_pow {a x : Nat} (ha : a < 65536) (hx : x < 16) : bits .andNot .u16 (a : Int) (IntKind.u16.wrap ((2 : Int) ^ x)) = ((a &&& (65535 - 2 ^ x) : Nat) : Int) := by
  rw [u16_wrap_pow hx, u16_andNot_nat a _ ha (pow_lt_16 hx)]
theorem tmod_bit (a x : Nat) : ((((a : Int) / 2 ^ x).tmod 2) == 1) = a.testBit x := by
  rw [cast_pow, ← Int.natCast_ediv, Int.tmod_eq_emod_of_nonneg (Int.natCast_nonneg _), Nat.testBit_eq_decide_div_mod_eq]
  have : (((a / 2 ^ x : Nat) : Int) % 2 == 1) = decide (((a / 2 ^ x : Nat) : Int) % 2 = 1) := rfl
  rw [this]
  congr 1
  apply propext
  omega
section
variable {P : Program}
theorem run_eqItems_fr (w : World) (d : Nat) (f g : Nat → Nat) {e : TypeId} (hp : P.plainKey e = true) (hu : P.underlying e = some (.int .u16)) :
    ∀ is : List Nat, (∀ i ∈ is, i < 12) → (Op.eqItems (d + 1) e 1 (FC f) (FC g) is).run P w = .ok (is.all fun i => f i == g i) w
  | [], _ => rfl
  | i :: is, h => by
    have hi : i < 12 := h i (by simp)
    have h1 := run_part_plain (P := P) w hp (xs := FC f) (off := i * 1) (by rw [Nat.mul_one]; exact FC_get f hi)
    have h2 := run_part_plain (P := P) w hp (xs := FC g) (off := i * 1) (by rw [Nat.mul_one]; exact FC_get g hi)
    have ih := run_eqItems_fr w d f g hp hu is (fun j hj => h j (by simp [hj]))
    simp only [Op.eqItems, Sem.run_bind, h1, h2, Result.andThen_ok, run_equalIn_int w d e .u16 .u16 _ _ hu]
    by_cases hfg : f i = g i
    · have hb : (((f i : Int) == (g i : Int))) = true := by simp [hfg]
      simp only [hb, Bool.not_true, Bool.false_eq_true, if_false, ih, List.all_cons]
      simp [hfg]
    · have hb : (((f i : Int) == (g i : Int))) = false := by simp; omega
      simp only [hb, Bool.not_false, if_true, Sem.run_pure, List.all_cons]
      simp [hfg]
theorem run_equal_fr (w : World) (f g : Nat → Nat) {t e : TypeId} {i : TypeInfo} (ht : P.underlying t = some (.array 12 e)) (hp : P.plainKey e = true) (hu : P.underlying e = some (.int .u16)) (hi : P.info? e = some i) (hc : P.cellsOf e = 1) :
    (Op.equal t (.agg (FC f)) (.agg (FC g))).run P w = .ok (eqF f g) w := by
  unfold Op.equal Op.maxDepth
  rw [run_equalIn_array w 9999 _ _ ht hi, hc]
  exact run_eqItems_fr w 9998 f g hp hu _ (by simp)
/-- Go's '==' of two frames. -/
theorem run_eql_fr (w : World) (f g : Nat → Nat) {t e : TypeId} {i : TypeInfo} (ht : P.underlying t = some (.array 12 e)) (hp : P.plainKey e = true) (hu : P.underlying e = some (.int .u16)) (hi : P.info? e = some i) (hc : P.cellsOf e = 1) :
    (binOp .eql t (.agg (FC f)) (.agg (FC g))).run P w = .ok (.bool (eqF f g)) w := by
  simp only [binOp]
  simp [run_equal_fr w f g ht hp hu hi hc]
theorem run_neq_fr (w : World) (f g : Nat → Nat) {t e : TypeId} {i : TypeInfo} (ht : P.underlying t = some (.array 12 e)) (hp : P.plainKey e = true) (hu : P.underlying e = some (.int .u16)) (hi : P.info? e = some i) (hc : P.cellsOf e = 1) :
    (binOp .neq t (.agg (FC f)) (.agg (FC g))).run P w = .ok (.bool (!eqF f g)) w := by
  simp only [binOp]
  simp [run_equal_fr w f g ht hp hu hi hc]
theorem run_index_fr (w : World) (g : Nat → Nat) {k : Nat} (hk : k < 12) {t e : TypeId} {i : TypeInfo} (ht : P.underlying t = some (.array 12 e)) (hp : P.plainKey e = true) (hi : P.info? e = some i) (hc : P.cellsOf e = 1) :
    (Instr.index t (.agg (FC g)) (.int .i64 (k : Int))).run P w = .ok (.int .u16 (g k)) w := by
  have h1 := run_part_plain (P := P) w hp (xs := FC g) (off := k * 1) (by rw [Nat.mul_one]; exact FC_get g hk)
  have hs := run_sizeOf w hi
  rw [hc] at hs
  simp only [Instr.index, asIntOf, Sem.run_bind, Sem.run_pure, Result.andThen_ok, run_underlying ht]
  rw [if_pos (by omega)]
  simp only [Sem.run_bind, hs, Result.andThen_ok, Int.toNat_natCast, h1]
open Go.Sort in
/-- A whole row is loaded in a region that draws its order (Derived/Lib/QuietBelow). -/
theorem wpQuiet_load_fr {ops : Array Oper} {w : World} {Q : Act → Prop} {rest : List Oper} {o : Oper} {a : Act} (hgd : o.guard = none) (ty e : TypeId) (x : Operand) (ho : o.op = .load ty x) (g : Nat) (hx : a.eval x = .pointer (some ⟨g, 0, none⟩))
    {t : TypeId} {f : Nat → Nat} (hb : Blk w g t f) (hu : P.underlying ty = some (.array 12 e)) (hi : (P.info? ty).map (·.size) = some 12)
    (h : wpQuiet P ops (fun w' => ∃ p : Regrown, w' = grow (redrawn w p.d) p.os) Q rest (a.put o.dst (.agg (FC f)))) : wpQuiet P ops (fun w' => ∃ p : Regrown, w' = grow (redrawn w p.d) p.os) Q (o :: rest) a := by
  unfold wpQuiet
  rw [if_pos (by simp [Region.wanted, hgd])]
  refine ⟨_, ?_, h⟩
  rintro w' ⟨p, rfl⟩
  have hb' : Blk (grow (redrawn w p.d) p.os) g t f := hb.below (below_regrown w p.d p.os) hb.lt
  unfold Oper.quietAt execOp
  simp only [ho, hx, Instr.loadAt, Instr.sureAddr, Sem.run_bind, Sem.run_pure, Result.andThen_ok, run_loadVar_row _ g t ty (FC f) (0, 0) _ hb' hu rfl hi]
  exact ⟨rfl, rfl⟩
end
/-- Block g is a row of the cells cs (a struct's fields, say). -/
def Row (w : World) (g : Nat) (t : TypeId) (cs : Array Value) : Prop := w.heap[g]? = some (.cells cs t (0, 0))
theorem Row.lt {w : World} {g : Nat} {t : TypeId} {cs : Array Value} (h : Row w g t cs) : g < w.heap.size := (Array.getElem?_eq_some_iff.1 h).1
theorem Row.new (w : World) (t : TypeId) (cs : Array Value) : Row (w.alloc (.cells cs t)) w.heap.size t cs := heap_alloc_new w _
theorem Row.alloc {w : World} {g : Nat} {t : TypeId} {cs : Array Value} (h : Row w g t cs) (o : Obj) : Row (w.alloc o) g t cs := by
  unfold Row; rw [Below.heap_alloc w o g h.lt]; exact h
theorem Row.below {B : Nat} {w w' : World} {g : Nat} {t : TypeId} {cs : Array Value} (h : Row w g t cs) (hb : Below B w w') (hg : g < B) : Row w' g t cs := by
  unfold Row; rw [hb.block g hg]; exact h
theorem Row.other {w : World} {g : Nat} {t : TypeId} {cs : Array Value} (h : Row w g t cs) {a : Addr} (v : Value) (hn : g ≠ a.block) : Row (w.setCell a v) g t cs := by
  unfold Row; rw [heap_setCell_other w a g v hn]; exact h
theorem Row.set {w : World} {g : Nat} {t : TypeId} {cs : Array Value} (h : Row w g t cs) (k : Nat) (v : Value) : Row (w.setCell ⟨g, k, none⟩ v) g t (cs.setIfInBounds k v) := heap_setCell_same w g k _ t _ h
theorem Row.setRow {w : World} {g : Nat} {t : TypeId} {cs : Array Value} (h : Row w g t cs) (cs' : Array Value) : Row (w.setRow g cs') g t cs' := setRow_heap w g _ _ t _ h
theorem Row.setRowOther {w : World} {g g' : Nat} {t : TypeId} {cs : Array Value} (h : Row w g t cs) (cs' : Array Value) (hn : g ≠ g') : Row (w.setRow g' cs') g t cs := by
  unfold Row; rw [setRow_other w g' g cs' hn]; exact h
theorem Row.cell {w : World} {g : Nat} {t : TypeId} {cs : Array Value} (h : Row w g t cs) (k : Nat) : w.cell? ⟨g, k, none⟩ = cs[k]? := cell_of_row w g k _ t _ h
theorem Row.free {w : World} {g : Nat} {t : TypeId} {cs : Array Value} (h : Row w g t cs) (k : Nat) : w.frozen? ⟨g, k, none⟩ = false := frozen_of_row w g k _ t h
theorem Row.drewN {w : World} {g : Nat} {t : TypeId} {cs : Array Value} (h : Row w g t cs) (n : Nat) : Row (w.drewN n) g t cs := h
section
variable {P : Program} {ops : Array Oper} {rest : List Oper} {o : Oper} {a : Act} {w : World} {Q : Exit → Act → World → Prop}
theorem run_storeVar_row (w : World) (g : Nat) (t ty : TypeId) (cs0 cs : Array Value) (hb : Row w g t cs0) (hs : cs.size = cs0.size) (h1 : ∀ v ∈ cs.toList, v.oneCell' = true) (hi : (P.info? ty).map (·.size) = some cs.size) :
    (storeVar ty ⟨g, 0, none⟩ (.agg cs)).run P w = .ok () (w.setRow g cs) := by
  have h1 := run_storeCells_at P g 0 t cs.toList 0 cs0 w hb (by simp [hs]) h1
  cases hq : P.info? ty with
  | none => simp [hq] at hi
  | some i =>
    have hsz : i.size = cs.size := by simpa [hq] using hi
    have hcs : (Value.agg cs).cells = cs := rfl
    simp only [storeVar, Sem.run_bind, sizeOf, typeInfo, hcs]
    simp [hq, hsz, h1, hs]
    congr 1
    have : cs0.toList.drop cs0.size = [] := List.drop_eq_nil_of_le (by simp)
    rw [this]
    simp
/-- A struct, or an array, is stored whole. -/
theorem wpList_store_row (hgd : o.guard = none) (ty : TypeId) (x y : Operand) (ho : o.op = .store ty x y) (g : Nat) (hx : a.eval x = .pointer (some ⟨g, 0, none⟩)) {t : TypeId} {cs0 cs : Array Value} (hb : Row w g t cs0)
    (hy : a.eval y = .agg cs) (hs : cs.size = cs0.size) (h1 : ∀ v ∈ cs.toList, v.oneCell' = true) (hi : (P.info? ty).map (·.size) = some cs.size) (h : wpList P ops Q rest (a.put o.dst undef) (w.setRow g cs)) : wpList P ops Q (o :: rest) a w :=
  wpList_plain hgd fun K hK => by
    unfold Oper.wp execOp
    simp only [ho, hx, hy, Instr.storeAt, Instr.sureAddr, Sem.run_bind, Sem.run_pure, Result.andThen_ok, run_storeVar_row w g t ty cs0 cs hb hs h1 hi]
    exact hK _ _ h
theorem bodyPost_ret_row2 {fn : Func} {R : Ending → World → Prop} {p u : Tmp} {ty : TypeId} (h : fn.results = #[.cell p ty, .tmp u]) {g : Nat} {t : TypeId} {cs : Array Value} {d : TypeDesc}
    (hp : a.tmps.getD p undef = .pointer (some ⟨g, 0, none⟩)) (hb : Row w g t cs) (hu : P.underlying ty = some d) (hd' : (match d with | .struct _ | .array _ _ => true | _ => false) = true) (hi : (P.info? ty).map (·.size) = some cs.size)
    (hd : a.defers = []) (hR : R (.returned (.tuple #[.agg cs, a.tmps.getD u undef])) w) : bodyPost P fn R .ret a w := by
  refine bodyPost_ret ?_ hd hR
  rw [results_cell_tmp h, hp]
  simp only [asAddr, Sem.run_pure, Result.andThen_ok, run_loadVar_row w g t ty cs (0, 0) _ hb hu hd' hi]
theorem bodyPost_ret_row {fn : Func} {R : Ending → World → Prop} {p : Tmp} {ty : TypeId} (h : fn.results = #[.cell p ty]) {g : Nat} {t : TypeId} {cs : Array Value} {d : TypeDesc}
    (hp : a.tmps.getD p undef = .pointer (some ⟨g, 0, none⟩)) (hb : Row w g t cs) (hu : P.underlying ty = some d) (hd' : (match d with | .struct _ | .array _ _ => true | _ => false) = true) (hi : (P.info? ty).map (·.size) = some cs.size)
    (hd : a.defers = []) (hR : R (.returned (.agg cs)) w) : bodyPost P fn R .ret a w :=
  bodyPost_ret (results_cell_row h a.tmps w g t cs (0, 0) d hp hb hu hd' hi) hd hR
end
theorem setRow_new (w : World) (cs0 cs : Array Value) (t : TypeId) : (w.alloc (.cells cs0 t)).setRow w.heap.size cs = w.alloc (.cells cs t) := by
  have hh : ((w.alloc (.cells cs0 t)).setRow w.heap.size cs).heap = (w.alloc (.cells cs t)).heap := by
    apply Array.ext_getElem?
    intro i
    by_cases hi : i = w.heap.size
    · subst hi
      rw [setRow_heap _ _ cs0 cs t (0, 0) (heap_alloc_new w _)]
      exact (heap_alloc_new w _).symm
    · rw [setRow_other _ _ _ _ hi]
      show (w.heap.push _)[i]? = (w.heap.push _)[i]?
      rw [Array.getElem?_push, Array.getElem?_push, if_neg hi, if_neg hi]
  show ({ (w.alloc (.cells cs0 t)).setRow w.heap.size cs with heap := ((w.alloc (.cells cs0 t)).setRow w.heap.size cs).heap } : World) = _
  rw [hh]
  rfl
/-- A frame is stored into the block that has just been laid. -/
theorem wpList_store_new {P : Program} {ops : Array Oper} {rest : List Oper} {o : Oper} {a : Act} {w : World} {Q : Exit → Act → World → Prop} (hgd : o.guard = none) (ty : TypeId) (x y : Operand) (ho : o.op = .store ty x y) {t : TypeId} {f0 f : Nat → Nat} (hx : a.eval x = .pointer (some ⟨w.heap.size, 0, none⟩))
    (hy : a.eval y = .agg (FC f)) (hi : (P.info? ty).map (·.size) = some 12) (h : wpList P ops Q rest (a.put o.dst undef) (w.alloc (.cells (FC f) t))) : wpList P ops Q (o :: rest) a (w.alloc (.cells (FC f0) t)) :=
  wpList_store_fr hgd ty x y ho _ hx (Blk.new w t f0) hy hi (by rw [setRow_new]; exact h)
open Go.Sort in
/-- A whole row is loaded in a region that draws its order. -/
theorem wpQuiet_load_row {P : Program} {ops : Array Oper} {w : World} {Q : Act → Prop} {rest : List Oper} {o : Oper} {a : Act} (hgd : o.guard = none) (ty : TypeId) (x : Operand) (ho : o.op = .load ty x) (g : Nat) (hx : a.eval x = .pointer (some ⟨g, 0, none⟩))
    {t : TypeId} {cs : Array Value} {d : TypeDesc} (hb : Row w g t cs) (hu : P.underlying ty = some d) (hd : (match d with | .struct _ | .array _ _ => true | _ => false) = true) (hi : (P.info? ty).map (·.size) = some cs.size)
    (h : wpQuiet P ops (fun w' => ∃ p : Regrown, w' = grow (redrawn w p.d) p.os) Q rest (a.put o.dst (.agg cs))) : wpQuiet P ops (fun w' => ∃ p : Regrown, w' = grow (redrawn w p.d) p.os) Q (o :: rest) a := by
  unfold wpQuiet
  rw [if_pos (by simp [Region.wanted, hgd])]
  refine ⟨_, ?_, h⟩
  rintro w' ⟨p, rfl⟩
  have hb' : Row (grow (redrawn w p.d) p.os) g t cs := hb.below (below_regrown w p.d p.os) hb.lt
  unfold Oper.quietAt execOp
  simp only [ho, hx, Instr.loadAt, Instr.sureAddr, Sem.run_bind, Sem.run_pure, Result.andThen_ok, run_loadVar_row _ g t ty cs (0, 0) d hb' hu hd hi]
  exact ⟨rfl, rfl⟩
theorem grown_below {S : Nat} {a w w' : World} (h : Below S a w) (k : Below w.heap.size w w') (hS : S ≤ w.heap.size) : Below S a w' := h.trans (k.mono hS)
theorem and1_bit {a : Nat} (ha : a < 65536) (x : Nat) : (bits .and .u16 ((a : Int) / 2 ^ x) 1 == 1) = a.testBit x := by
  have hlt : a / 2 ^ x < 65536 := Nat.lt_of_le_of_lt (Nat.div_le_self _ _) ha
  have h1 := u16_and_nat (a / 2 ^ x) 1 hlt (by omega)
  rw [cast_pow, ← Int.natCast_ediv]
  rw [show ((1 : Nat) : Int) = 1 from rfl] at h1
  rw [h1, Nat.and_one_is_mod, Nat.testBit_eq_decide_div_mod_eq]
  have : (((a / 2 ^ x % 2 : Nat) : Int) == 1) = decide (((a / 2 ^ x % 2 : Nat) : Int) = 1) := rfl
  rw [this]
  congr 1
  apply propext
  omega
section
variable {P : Program} {ops : Array Oper}
theorem run_index_tab (w : World) (T : TypeId) (s : ByteArray) (k : IntKind) (n : Nat) (hT : P.underlying T = some .string) (tab : Nat → Nat) (N : Nat) (hn : n < N)
    (htab : (List.range N).all (fun j => s[j]? == some (UInt8.ofNat (tab j))) = true) (ht : tab n < 256) : (Instr.index T (.string s) (.int k (n : Int))).run P w = .ok (.int .u8 (tab n)) w := by
  have h1 := List.all_eq_true.1 htab n (List.mem_range.2 hn)
  have h2 : s[n]? = some (UInt8.ofNat (tab n)) := by simpa using h1
  have h3 : (UInt8.ofNat (tab n)).toNat = tab n := by simp; omega
  simp only [Instr.index, asIntOf, Sem.run_bind, Sem.run_pure, Result.andThen_ok, run_underlying hT]
  rw [if_pos (by omega), Int.toNat_natCast, h2]
  simp only [Sem.run_pure, h3]
/-- A byte of a constant string, by a table. -/
theorem wpQuiet_index_tab {C : World → Prop} {Q : Act → Prop} {rest : List Oper} {o : Oper} {a : Act} (hgd : o.guard = none) (T : TypeId) (x i : Operand) (ho : o.op = .index T x i) {s : ByteArray} (hx : a.eval x = .string s)
    {k : IntKind} {z : Int} (hi : a.eval i = .int k z) {n : Nat} (hz : z = n) (hT : P.underlying T = some .string) (tab : Nat → Nat) (N : Nat) (hn : n < N)
    (htab : (List.range N).all (fun j => s[j]? == some (UInt8.ofNat (tab j))) = true) (ht : tab n < 256)
    (h : wpQuiet P ops C Q rest (a.put o.dst (.int .u8 (tab n)))) : wpQuiet P ops C Q (o :: rest) a := by
  subst hz
  unfold wpQuiet
  rw [if_pos (by simp [Region.wanted, hgd])]
  refine ⟨_, ?_, h⟩
  intro w' _
  unfold Oper.quietAt execOp
  simp only [ho, hx, hi, Sem.run_bind, run_index_tab w' T s k n hT tab N hn htab ht, Result.andThen_ok, Sem.run_pure]
  exact ⟨rfl, rfl⟩
theorem wpList_index_tab {w : World} {Q : Exit → Act → World → Prop} {rest : List Oper} {o : Oper} {a : Act} (hgd : o.guard = none) (T : TypeId) (x i : Operand) (ho : o.op = .index T x i) {s : ByteArray} (hx : a.eval x = .string s)
    {k : IntKind} {z : Int} (hi : a.eval i = .int k z) {n : Nat} (hz : z = n) (hT : P.underlying T = some .string) (tab : Nat → Nat) (N : Nat) (hn : n < N)
    (htab : (List.range N).all (fun j => s[j]? == some (UInt8.ofNat (tab j))) = true) (ht : tab n < 256)
    (h : wpList P ops Q rest (a.put o.dst (.int .u8 (tab n))) w) : wpList P ops Q (o :: rest) a w := by
  subst hz
  refine wpList_plain hgd fun K hK => ?_
  unfold Oper.wp execOp
  simp only [ho, hx, hi, Sem.run_bind, run_index_tab _ T s k n hT tab N hn htab ht, Result.andThen_ok, Sem.run_pure]
  exact hK _ _ h
end
/-- One block may have been written; all other blocks are as they were. -/
structure Wrote (B : Nat) (w w' : World) : Prop where
  os : w'.os = w.os
  tape : w'.tape = w.tape
  output : w'.output = w.output
  size : w.heap.size ≤ w'.heap.size
  block : ∀ k, k < w.heap.size → k ≠ B → w'.heap[k]? = w.heap[k]?
theorem Wrote.refl (B : Nat) (w : World) : Wrote B w w := ⟨rfl, rfl, rfl, Nat.le_refl _, fun _ _ _ => rfl⟩
theorem Wrote.trans {B : Nat} {a b c : World} (h : Wrote B a b) (k : Wrote B b c) : Wrote B a c :=
  ⟨k.os.trans h.os, k.tape.trans h.tape, k.output.trans h.output, Nat.le_trans h.size k.size, fun i hi hn => (k.block i (Nat.lt_of_lt_of_le hi h.size) hn).trans (h.block i hi hn)⟩
theorem Wrote.drew {B : Nat} {a w : World} (h : Wrote B a w) : Wrote B a w.drew := ⟨h.os, h.tape, h.output, h.size, h.block⟩
theorem Wrote.setCell {B : Nat} {a w : World} (h : Wrote B a w) {p : Addr} (hp : B = p.block) (u : Value) : Wrote B a (w.setCell p u) :=
  h.trans ⟨rfl, rfl, rfl, by simp [World.setCell], fun k _ hn => Below.heap_setCell _ _ _ _ (by omega)⟩
theorem Wrote.below {S B : Nat} {a w w' : World} (h : Below S a w) (k : Wrote B w w') (hB : S ≤ B) (hS : S ≤ w.heap.size) : Below S a w' :=
  h.trans ⟨k.os, k.tape, k.output, k.size, fun i hi => k.block i (by omega) (by omega)⟩
theorem Wrote.blk {B : Nat} {w w' : World} (k : Wrote B w w') {g : Nat} {t : TypeId} {f : Nat → Nat} (h : Blk w g t f) (hn : g ≠ B) : Blk w' g t f := by
  unfold Blk; rw [k.block g h.lt hn]; exact h
theorem Blk.drew {w : World} {g : Nat} {t : TypeId} {f : Nat → Nat} (h : Blk w g t f) : Blk w.drew g t f := h
theorem Blk.drewN {w : World} {g : Nat} {t : TypeId} {f : Nat → Nat} (h : Blk w g t f) (n : Nat) : Blk (w.drewN n) g t f := h
theorem below_drewN {B : Nat} {a w : World} (h : Below B a w) (n : Nat) : Below B a (w.drewN n) := ⟨h.os, h.tape, h.output, h.size, h.block⟩
section
open Go.ChangeShapes Go.WideShapes
variable {H : Type} {enc : TypeId × Value → H} {P : Program} {w : World} {base : Nat} {spare : Nat → Bool} {held : Bool}
/-- The row's numbers. -/
def rowOf (cs : Array Value) (k : Nat) : Nat := match cs[k]? with | some (.int _ n) => n.toNat | _ => 0
/-- An argument of type [12]uint16 (or a named one), opened. -/
theorem open_fr {r : Reach} {b0 : Nat} {t e : TypeId} {v : Value} {d : DataW H} {p : List MemPlace} (ht : P.underlying t = some (.array 12 e)) (he : P.underlying e = some (.int .u16)) (hce : P.cellsOf e = 1) (hct : P.cellsOf t = 12)
    (hv : Value.okWide P w r b0 t v) (h : DataW.Trod enc P w base spare held t v d p) : ∃ f : Nat → Nat, v = .agg (FC f) ∧ ∀ k, f k < 65536 := by
  unfold Value.okWide at hv
  rw [ht] at hv
  obtain ⟨cs, rfl, hsz, _⟩ := hv
  rw [hct] at hsz
  obtain ⟨fuel, hf⟩ := h
  obtain ⟨xs, m, _, _, _, hxl, hx⟩ := DataW.trod_array ht hf
  rw [hce] at hx
  have hc : ∀ i, i < 12 → ∃ n : Nat, n < 65536 ∧ cs[i]? = some (.int .u16 n) := by
    intro i hi
    have h1 := hx i hi
    rw [List.getElem?_eq_getElem (by omega)] at h1
    obtain ⟨n, hn, _, hw⟩ := DataW.trod_int he h1
    have hb := bounds_u16 hw
    obtain ⟨k, rfl⟩ := Int.eq_ofNat_of_zero_le hb.1
    refine ⟨k, by omega, ?_⟩
    have hh : (((Value.agg cs).cells.toList.drop (i * 1)).take 1)[0]? = some (.int .u16 (k : Int)) := by rw [hn]; rfl
    simpa [Value.cells, List.getElem?_take, List.getElem?_drop] using hh
  refine ⟨rowOf cs, ?_, ?_⟩
  · congr 1
    apply Array.ext_getElem?
    intro i
    by_cases hi : i < 12
    · obtain ⟨n, _, hn⟩ := hc i hi
      rw [FC_get _ hi, hn]
      simp [rowOf, hn]
    · rw [Array.getElem?_eq_none (by omega), Array.getElem?_eq_none (by rw [FC_size]; omega)]
  · intro k
    by_cases hk : k < 12
    · obtain ⟨n, hn, he⟩ := hc k hk
      simp [rowOf, he]; exact hn
    · have : cs[k]? = none := Array.getElem?_eq_none (by omega)
      simp [rowOf, this]
end
end Go.Proofs.Ytjbjbdkmomkclaa
