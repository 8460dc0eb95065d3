/- PACKAGE-LEVEL TABLES: what is laid lies in the variable's block. Plain lemmas, and two tables: impl.beside, math/bits.deBruijn32tab. -/
import Derived.Test.YtjbjbdkmomkclaaDoorRows
import Derived.Test.YtjbjbdkmomkclaaDoorFr
import Derived.Lib.LaidTab
import Derived.MakeChecks
import Derived.OpenShut
namespace Go.Proofs.YtjbjbdkmomkclaaDoor
open Go.RowKit
set_option linter.unusedVariables false
/-- Block g holds these cells. -/
def Tab (w : World) (g : Nat) (cs : Array Value) : Prop := ∃ t fr, w.heap[g]? = some (.cells cs t fr)
theorem Tab.lt {w : World} {g : Nat} {cs : Array Value} (h : Tab w g cs) : g < w.heap.size := by obtain ⟨_, _, h⟩ := h; exact (Array.getElem?_eq_some_iff.1 h).1
theorem Tab.keep {w w' : World} {g : Nat} {cs : Array Value} (h : Tab w g cs) (hb : w'.heap[g]? = w.heap[g]?) : Tab w' g cs := by
  obtain ⟨t, fr, h⟩ := h; exact ⟨t, fr, by rw [hb, h]⟩
theorem Tab.below {B : Nat} {w w' : World} {g : Nat} {cs : Array Value} (h : Tab w g cs) (hb : Below B w w') (hg : g < B) : Tab w' g cs := h.keep (hb.block g hg)
theorem Tab.alloc {w : World} {g : Nat} {cs : Array Value} (h : Tab w g cs) (o : Obj) : Tab (w.alloc o) g cs := h.keep (Below.heap_alloc w o g h.lt)
theorem Tab.setRowOther {w : World} {g g' : Nat} {cs : Array Value} (h : Tab w g cs) (cs' : Array Value) (hn : g ≠ g') : Tab (w.setRow g' cs') g cs := h.keep (setRow_other w g' g cs' hn)
theorem Tab.cell {w : World} {g : Nat} {cs : Array Value} (h : Tab w g cs) (k : Nat) : w.cell? ⟨g, k, none⟩ = cs[k]? := by
  obtain ⟨t, fr, h⟩ := h; exact cell_of_row w g k cs t fr h
theorem laid_var {P : Program} {W : World} : ∀ {l : List (String × DataW Unit)} {ps : List MemPlace}, DataW.LaidVars P W l ps → ∀ {n : String} {d : DataW Unit}, (n, d) ∈ l →
    ∃ g t cs fuel p, P.globalNamed n = some g ∧ (P.globals[g]?).map (·.type) = some t ∧ W.var? P n = some cs ∧ DataW.trod (fun _ => ()) P W 0 (fun _ => true) false fuel t cs.toList = some (d, p)
  | (n', d') :: r, ps, h, n, d, hm => by
    obtain ⟨g, t, cs, fuel, p, q, h1, h2, h3, h4, h5, _⟩ := h
    rcases List.mem_cons.1 hm with e | hm
    · cases e; exact ⟨g, t, cs, fuel, p, h1, h2, h3, h4⟩
    · exact laid_var h5 hm
theorem tab_of_var {P : Program} {W : World} {n : String} {g : Nat} {cs : Array Value} (hg : P.globalNamed n = some g) (h : W.var? P n = some cs) : Tab W g cs := by
  unfold World.var? at h
  rw [hg, Option.bind_some] at h
  split at h
  · rename_i cs' t fr hh; cases h; exact ⟨t, fr, hh⟩
  · cases h
section
variable {H : Type} {enc : TypeId × Value → H} {P : Program} {w : World} {base : Nat} {sp : Nat → Bool} {held : Bool}
theorem cells_of_pairs {fuel : Nat} {t e u : TypeId} {k : IntKind} {cs : List Value} {a b c d : Int × Int} {p : List MemPlace} (ht : P.underlying t = some (.array 4 e)) (he : P.underlying e = some (.array 2 u)) (hu : P.underlying u = some (.int k)) (hcu : P.cellsOf u = 1) (hce : P.cellsOf e = 2) (hct : P.cellsOf t = 8)
    (h : DataW.trod enc P w base sp held fuel t cs = some (.agg [Lib.tabData k [a.1, a.2], Lib.tabData k [b.1, b.2], Lib.tabData k [c.1, c.2], Lib.tabData k [d.1, d.2]], p)) :
    cs = [.int k a.1, .int k a.2, .int k b.1, .int k b.2, .int k c.1, .int k c.2, .int k d.1, .int k d.2] := by
  obtain ⟨xs, m, _, hx, hcl, hxl, hg⟩ := DataW.trod_array ht h
  rw [hct] at hcl
  have hxs : xs.map (·.1) = [Lib.tabData k [a.1, a.2], Lib.tabData k [b.1, b.2], Lib.tabData k [c.1, c.2], Lib.tabData k [d.1, d.2]] := by
    obtain ⟨h1, _⟩ := Prod.mk.inj hx
    injection h1 with h1
    exact h1.symm
  match xs, hxl, hxs, hg with
  | [x0, x1, x2, x3], _, hxs, hg =>
    simp only [List.map_cons, List.map_nil, List.cons.injEq, and_true] at hxs
    obtain ⟨e0, e1, e2, e3⟩ := hxs
    match cs, hcl, hg with
    | [c0, c1, c2, c3, c4, c5, c6, c7], _, hg =>
      rw [hce] at hg
      have one : ∀ (i : Nat) (x : DataW H × List MemPlace) (z : Int × Int) (l : List Value), i < 4 → [x0, x1, x2, x3][i]? = some x → x.1 = Lib.tabData k [z.1, z.2] → (([c0, c1, c2, c3, c4, c5, c6, c7].drop (i * 2)).take 2) = l → l = [.int k z.1, .int k z.2] := by
        intro i x z l hi hxi hz hl
        have h1 := hg i hi
        rw [hxi, hl] at h1
        obtain ⟨x1, x2⟩ := x
        cases hz
        exact Lib.cells_of_tab he hu hcu hce h1
      have k0 := one 0 x0 a [c0, c1] (by omega) rfl e0 rfl
      have k1 := one 1 x1 b [c2, c3] (by omega) rfl e1 rfl
      have k2 := one 2 x2 c [c4, c5] (by omega) rfl e2 rfl
      have k3 := one 3 x3 d [c6, c7] (by omega) rfl e3 rfl
      cases k0; cases k1; cases k2; cases k3
      rfl
end
/-- What lies in the table. -/
def BT : Array Value := #[.int .i64 0, .int .i64 (-1), .int .i64 (-1), .int .i64 0, .int .i64 1, .int .i64 0, .int .i64 0, .int .i64 1]
def DBz : List Int := [0, 1, 28, 2, 29, 14, 24, 3, 30, 22, 20, 15, 25, 17, 4, 8, 31, 27, 13, 23, 21, 19, 16, 7, 26, 12, 18, 6, 11, 5, 10, 9]
theorem bruijn_of {W : World} {ps : List MemPlace} {l : List (String × DataW Unit)} (h : DataW.LaidVars Tryd.prog W l ps) (hm : ("math/bits.deBruijn32tab", Lib.tabData .u8 DBz) ∈ l) : Tab W 1 (DBz.map fun z => Value.int .u8 z).toArray := by
  obtain ⟨g, t, cs, fuel, p, h1, h2, h3, h4⟩ := laid_var h hm
  obtain rfl := Option.some.inj ((show Tryd.prog.globalNamed "math/bits.deBruijn32tab" = some 1 by kernel_rfl).symm.trans h1)
  obtain rfl := Option.some.inj ((show (Tryd.prog.globals[1]?).map (·.type) = some 108 by kernel_rfl).symm.trans h2)
  have hc := Lib.cells_of_tab Tryd.underlying108 Tryd.underlying5 (by kernel_rfl) (by kernel_rfl) h4
  have : cs = (DBz.map fun z => Value.int .u8 z).toArray := by rw [← hc]
  rw [this] at h3
  exact tab_of_var h1 h3
end Go.Proofs.YtjbjbdkmomkclaaDoor
