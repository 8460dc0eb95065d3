/- CELS: how a cel lies in memory: the rows of two frames, one behind the other; loads and stores of halves. Plain lemmas: no function of the program is named. -/
import Derived.Test.YtjbjbdkmomkclaaRows
import Derived.Test.YtjbjbdkmomkclaaFr
import Derived.Test.YtjbjbdkmomkclaaMem
namespace Go.Proofs.Ytjbjbdkmomkclaa
open Go.RowKit
set_option linter.unusedVariables false
set_option linter.unusedSimpArgs false
def CC (i k : Nat → Nat) : Array Value := #[.int .u16 (i 0), .int .u16 (i 1), .int .u16 (i 2), .int .u16 (i 3), .int .u16 (i 4), .int .u16 (i 5), .int .u16 (i 6), .int .u16 (i 7), .int .u16 (i 8), .int .u16 (i 9), .int .u16 (i 10), .int .u16 (i 11), .int .u16 (k 0), .int .u16 (k 1), .int .u16 (k 2), .int .u16 (k 3), .int .u16 (k 4), .int .u16 (k 5), .int .u16 (k 6), .int .u16 (k 7), .int .u16 (k 8), .int .u16 (k 9), .int .u16 (k 10), .int .u16 (k 11)]
theorem CC_list (i k : Nat → Nat) : (CC i k).toList = (FC i).toList ++ (FC k).toList := rfl
theorem CC_one (i k : Nat → Nat) : ∀ v ∈ (CC i k).toList, v.oneCell' = true := by
  intro v hv
  rw [CC_list, List.mem_append] at hv
  rcases hv with h | h
  · exact FC_one i v h
  · exact FC_one k v h
theorem CC_zero : CC zeroF zeroF = #[.int .u16 0, .int .u16 0, .int .u16 0, .int .u16 0, .int .u16 0, .int .u16 0, .int .u16 0, .int .u16 0, .int .u16 0, .int .u16 0, .int .u16 0, .int .u16 0, .int .u16 0, .int .u16 0, .int .u16 0, .int .u16 0, .int .u16 0, .int .u16 0, .int .u16 0, .int .u16 0, .int .u16 0, .int .u16 0, .int .u16 0, .int .u16 0] := rfl
theorem CC_ext {i i' k k' : Nat → Nat} (hi : ∀ y, y < 12 → i y = i' y) (hk : ∀ y, y < 12 → k y = k' y) : CC i k = CC i' k' := by
  apply Array.toList_inj.1
  rw [CC_list, CC_list, FC_ext hi, FC_ext hk]
/-- Block g is a cel. -/
def CelAt (w : World) (g : Nat) (t : TypeId) (i k : Nat → Nat) : Prop := Row w g t (CC i k)
/-- A cel lies in block b from offset o on. -/
structure CelIn (w : World) (b o : Nat) (i k : Nat → Nat) : Prop where
  ink : w.rangeAt b o (FC i).toList
  cov : w.rangeAt b (o + 12) (FC k).toList
theorem celIn_range {w : World} {b o : Nat} {i k : Nat → Nat} (h : w.rangeAt b o (CC i k).toList) : CelIn w b o i k := by
  rw [CC_list] at h
  refine ⟨fun j v hv => h j v ?_, fun j v hv => ?_⟩
  · rw [List.getElem?_append_left ((List.getElem?_eq_some_iff.1 hv).1)]; exact hv
  · have := h (12 + j) v (by rw [List.getElem?_append_right (by show 12 ≤ 12 + j; omega)]; show (FC k).toList[12 + j - 12]? = _; rw [Nat.add_sub_cancel_left]; exact hv)
    rwa [← Nat.add_assoc] at this
theorem CelIn.range {w : World} {b o : Nat} {i k : Nat → Nat} (h : CelIn w b o i k) : w.rangeAt b o (CC i k).toList := by
  intro j v hv
  rw [CC_list] at hv
  rcases Nat.lt_or_ge j 12 with hj | hj
  · rw [List.getElem?_append_left (by show j < 12; exact hj)] at hv
    exact h.ink j v hv
  · rw [List.getElem?_append_right (by show 12 ≤ j; exact hj)] at hv
    have := h.cov (j - 12) v hv
    rwa [show o + 12 + (j - 12) = o + j by omega] at this
theorem CelIn.below {B : Nat} {w w' : World} {b o : Nat} {i k : Nat → Nat} (h : CelIn w b o i k) (hb : Below B w w') (hlt : b < B) : CelIn w' b o i k := ⟨range_below h.ink hb hlt, range_below h.cov hb hlt⟩
section
variable {w w' : World} {g : Nat} {t : TypeId} {i k : Nat → Nat}
theorem CelAt.new (w : World) (t : TypeId) (i k : Nat → Nat) : CelAt (w.alloc (.cells (CC i k) t)) w.heap.size t i k := Row.new w t _
theorem CelAt.lt (h : CelAt w g t i k) : g < w.heap.size := Row.lt h
theorem CelAt.alloc (h : CelAt w g t i k) (o : Obj) : CelAt (w.alloc o) g t i k := Row.alloc h o
theorem CelAt.below {B : Nat} (h : CelAt w g t i k) (hb : Below B w w') (hg : g < B) : CelAt w' g t i k := Row.below h hb hg
theorem CelAt.wrote {B : Nat} (h : CelAt w g t i k) (hb : Wrote B w w') (hg : g ≠ B) : CelAt w' g t i k := hb.row h hg
theorem CelAt.cells (h : CelAt w g t i k) : CelIn w g 0 i k := celIn_range (fun j v hv => by rw [Nat.zero_add, Row.cell h]; simpa using hv)
theorem CelAt.ink (h : CelAt w g t i k) : w.rangeAt g 0 (FC i).toList := h.cells.ink
theorem CelAt.cov (h : CelAt w g t i k) : w.rangeAt g 12 (FC k).toList := h.cells.cov
theorem CelAt.held (h : CelAt w g t i k) : Held eFr w g t [i, k] := h
theorem CelAt.of_held (h : Held eFr w g t [i, k]) : CelAt w g t i k := h
theorem CelAt.setRow (h : CelAt w g t i k) (i' k' : Nat → Nat) : CelAt (w.setRow g (CC i' k')) g t i' k' := Row.setRow h _
theorem CelAt.setRowOther {g' : Nat} (h : CelAt w g t i k) (cs : Array Value) (hn : g ≠ g') : CelAt (w.setRow g' cs) g t i k := Row.setRowOther h cs hn
theorem CelAt.drewN (h : CelAt w g t i k) (n : Nat) : CelAt (w.drewN n) g t i k := h
end
section
variable {P : Program} {ops : Array Oper} {rest : List Oper} {o : Oper} {a : Act} {w : World} {Q : Exit → Act → World → Prop} {g : Nat} {t : TypeId} {i k : Nat → Nat}
/-- A cel is loaded whole. -/
theorem wpList_load_cel (hgd : o.guard = none) (ty : TypeId) (x : Operand) (ho : o.op = .load ty x) (hx : a.eval x = .pointer (some ⟨g, 0, none⟩)) (hb : CelAt w g t i k) {d : TypeDesc} (hu : P.underlying ty = some d) (hd : d.isRow = true) (hi : (P.info? ty).map (·.size) = some 24)
    (h : wpList P ops Q rest (a.put o.dst (.agg (CC i k))) w) : wpList P ops Q (o :: rest) a w :=
  wpList_load_row hgd ty x ho g hx t (CC i k) (0, 0) d hb hu (by cases d <;> simp_all [TypeDesc.isRow]) hi h
/-- .. out of the middle of a block. -/
theorem wpList_load_celIn (hgd : o.guard = none) (ty : TypeId) (x : Operand) (ho : o.op = .load ty x) (b off : Nat) (hx : a.eval x = .pointer (some ⟨b, off, none⟩)) (hb : CelIn w b off i k) {d : TypeDesc} (hu : P.underlying ty = some d) (hd : d.isRow = true) (hi : (P.info? ty).map (·.size) = some 24)
    (h : wpList P ops Q rest (a.put o.dst (.agg (CC i k))) w) : wpList P ops Q (o :: rest) a w :=
  wpList_load_mid hgd ty x ho b off hx (CC i k).toList d hb.range hu hd hi h
/-- A cel is stored whole. -/
theorem wpList_store_cel (hgd : o.guard = none) (ty : TypeId) (x y : Operand) (ho : o.op = .store ty x y) {i0 k0 : Nat → Nat} (hb : CelAt w g t i0 k0) (hx : a.eval x = .pointer (some ⟨g, 0, none⟩)) (hy : a.eval y = .agg (CC i k)) (hi : (P.info? ty).map (·.size) = some 24)
    (h : CelAt (w.setRow g (CC i k)) g t i k → wpList P ops Q rest (a.put o.dst undef) (w.setRow g (CC i k))) : wpList P ops Q (o :: rest) a w :=
  wpList_store_row hgd ty x y ho g hx hb hy rfl (CC_one i k) hi (h (hb.setRow i k))
/-- A cel's ink is stored. -/
theorem wpList_store_ink (hgd : o.guard = none) (ty : TypeId) (x y : Operand) (ho : o.op = .store ty x y) (hb : CelAt w g t i k) (hx : a.eval x = .pointer (some ⟨g, 0, none⟩)) {f : Nat → Nat} (hy : a.eval y = .agg (FC f)) (hi : (P.info? ty).map (·.size) = some 12)
    (h : CelAt (w.setCells g 0 (FC f).toList) g t f k → Wrote g w (w.setCells g 0 (FC f).toList) → wpList P ops Q rest (a.put o.dst undef) (w.setCells g 0 (FC f).toList)) : wpList P ops Q (o :: rest) a w :=
  wpList_store_held (E := eFr) hgd ty x y ho hb.held (i := 0) (off := 0) (by simp) rfl hx f hy rfl hi (fun h1 h2 => h h1 h2)
/-- A cel's cover is stored. -/
theorem wpList_store_cov (hgd : o.guard = none) (ty : TypeId) (x y : Operand) (ho : o.op = .store ty x y) (hb : CelAt w g t i k) (hx : a.eval x = .pointer (some ⟨g, 12, none⟩)) {f : Nat → Nat} (hy : a.eval y = .agg (FC f)) (hi : (P.info? ty).map (·.size) = some 12)
    (h : CelAt (w.setCells g 12 (FC f).toList) g t i f → Wrote g w (w.setCells g 12 (FC f).toList) → wpList P ops Q rest (a.put o.dst undef) (w.setCells g 12 (FC f).toList)) : wpList P ops Q (o :: rest) a w :=
  wpList_store_held (E := eFr) hgd ty x y ho hb.held (i := 1) (off := 12) (by simp) rfl hx f hy rfl hi (fun h1 h2 => h h1 h2)
open Go.Sort in
theorem wpQuiet_load_celIn {Q : Act → Prop} (hgd : o.guard = none) (ty : TypeId) (x : Operand) (ho : o.op = .load ty x) (b off : Nat) (hx : a.eval x = .pointer (some ⟨b, off, none⟩)) (hb : CelIn w b off i k) (hlt : b < w.heap.size) {d : TypeDesc} (hu : P.underlying ty = some d) (hd : d.isRow = true) (hi : (P.info? ty).map (·.size) = some 24)
    (h : wpQuiet P ops (fun w' => ∃ p : Regrown, w' = grow (redrawn w p.d) p.os) Q rest (a.put o.dst (.agg (CC i k)))) : wpQuiet P ops (fun w' => ∃ p : Regrown, w' = grow (redrawn w p.d) p.os) Q (o :: rest) a := by
  unfold wpQuiet
  rw [if_pos (by simp [Region.wanted, hgd])]
  refine ⟨_, ?_, h⟩
  rintro w' ⟨p, rfl⟩
  have hb' : (grow (redrawn w p.d) p.os).rangeAt b off (CC i k).toList := range_below hb.range (below_regrown w p.d p.os) hlt
  unfold Oper.quietAt execOp
  simp only [ho, hx, Instr.loadAt, Instr.sureAddr, Sem.run_bind, Sem.run_pure, Result.andThen_ok, run_loadVar_mid _ b off ty (CC i k).toList d hb' hu hd hi]
  exact ⟨rfl, rfl⟩
end
section
variable {P : Program} {ops : Array Oper} {rest : List Oper} {o : Oper} {a : Act} {w : World}
/-- A struct of two parts is built. -/
theorem wpList_build2 {Q : Exit → Act → World → Prop} (hgd : o.guard = none) (T : TypeId) (m n : Nat) (x y : Operand) (ho : o.op = .build T #[(m, x), (n, y)]) {u v r : Value} (hx : a.eval x = u) (hy : a.eval y = v)
    (hr : ∀ w, (Instr.build T #[(m, u), (n, v)]).run P w = .ok r w) (h : wpList P ops Q rest (a.put o.dst r) w) : wpList P ops Q (o :: rest) a w :=
  wpList_plain hgd fun K hK => by
    unfold Oper.wp execOp
    simp only [ho, List.map_toArray, List.map_cons, List.map_nil, hx, hy, Sem.run_bind, hr, Result.andThen_ok, Sem.run_pure]
    exact hK _ _ h
open Go.Sort in
theorem wpQuiet_build2 {C : World → Prop} {Q : Act → Prop} (hgd : o.guard = none) (T : TypeId) (m n : Nat) (x y : Operand) (ho : o.op = .build T #[(m, x), (n, y)]) {u v r : Value} (hx : a.eval x = u) (hy : a.eval y = v)
    (hr : ∀ w, (Instr.build T #[(m, u), (n, v)]).run P w = .ok r w) (h : wpQuiet P ops C Q rest (a.put o.dst r)) : wpQuiet P ops C Q (o :: rest) a := by
  unfold wpQuiet
  rw [if_pos (by simp [Region.wanted, hgd])]
  refine ⟨_, ?_, h⟩
  intro w' _
  unfold Oper.quietAt execOp
  simp only [ho, List.map_toArray, List.map_cons, List.map_nil, hx, hy, Sem.run_bind, hr, Result.andThen_ok, Sem.run_pure]
  exact ⟨rfl, rfl⟩
end
end Go.Proofs.Ytjbjbdkmomkclaa
