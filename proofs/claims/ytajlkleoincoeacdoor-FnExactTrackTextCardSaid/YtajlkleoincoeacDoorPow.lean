/- THE TABLE OF POWERS OF TEN, that strconv.Itoa reads; Itoa at every number. -/
import Derived.Test.YtajlkleoincoeacDoorRows
import Derived.Test.YtajlkleoincoeacDoorTxI
import Derived.Test.YtajlkleoincoeacDoorTab
import Derived.Lib.LaidTab
namespace Go.Proofs.YtajlkleoincoeacDoor
open Go.RowKit
set_option linter.unusedVariables false
set_option linter.unusedSimpArgs false
def Pw (w : World) : Prop := Lib.TabIs Tryd.prog w "internal/strconv.uint64pow10" .u64 Lib.pow10Tab
theorem Pw.below {w w' : World} (h : Pw w) (hb : Below w.heap.size w w') : Pw w' := by
  unfold Pw Lib.TabIs World.var? at h ⊢
  rw [show Tryd.prog.globalNamed "internal/strconv.uint64pow10" = some 10 by kernel_rfl] at h ⊢
  simp only [Option.bind_some] at h ⊢
  have hlt : 10 < w.heap.size := by
    rcases Nat.lt_or_ge 10 w.heap.size with h' | h'
    · exact h'
    · rw [Array.getElem?_eq_none h'] at h; cases h
  rw [hb.block _ hlt]
  exact h
theorem pow_of {W : World} {ps : List MemPlace} {l : List (String × DataW Unit)} (h : DataW.LaidVars Tryd.prog W l ps) (hm : ("internal/strconv.uint64pow10", Lib.tabData .u64 Lib.pow10Tab) ∈ l) : Pw W := by
  obtain ⟨g, t, cs, fuel, p, h1, h2, h3, h4⟩ := laid_var h hm
  obtain rfl := Option.some.inj ((show Tryd.prog.globalNamed "internal/strconv.uint64pow10" = some 10 by kernel_rfl).symm.trans h1)
  obtain rfl := Option.some.inj ((show (Tryd.prog.globals[10]?).map (·.type) = some 223 by kernel_rfl).symm.trans h2)
  have hc := Lib.cells_of_tab Tryd.underlying223 Tryd.underlying153 (by kernel_rfl) (by kernel_rfl) h4
  have : cs = (Lib.pow10Tab.map fun z => Value.int .u64 z).toArray := by rw [← hc]
  rw [this] at h3
  exact h3
theorem mem_of_data {W : String} {d d' : DataW Unit} {l : List (String × DataW Unit)} (h : (W, d') ∈ l) (e : d = d') : (W, d) ∈ l := e ▸ h
/-- A number's text. -/
def sgL (z : Int) : List UInt8 := Lib.itoa z
theorem sgL_neg {z : Int} (h : z < 0) : sgL z = [45] ++ dcL z.natAbs := by unfold sgL Lib.itoa; rw [if_pos h]; rfl
theorem sgL_pos {z : Int} (h : ¬ z < 0) : sgL z = dcL z.toNat := by unfold sgL Lib.itoa; rw [if_neg h]; rfl
theorem sgL_len {z : Int} (h1 : -99 ≤ z) (h2 : z ≤ 999) : (sgL z).length ≤ 3 := by
  by_cases h : z < 0
  · rw [sgL_neg h]; have := dcL_len2 (n := z.natAbs) (by omega); simp; omega
  · rw [sgL_pos h]; exact dcL_len3 (by omega)
theorem itoa_any (z : Int) (h0 : -9223372036854775808 ≤ z) (h1 : z ≤ 9223372036854775807) (w : World) (hP : Pw w) :
    Calls Tryd.prog 102 #[.int .i64 z] w fun e w' => e = .returned (.string (bsOf (sgL z))) ∧ Below w.heap.size w w' :=
  (Tryd.strconv_Itoa z h0 h1 w hP).mono fun e w' ⟨he, k, os, hw⟩ => ⟨he, by
    have := below_regrown w (w.drawn + k) os
    rw [hw]
    have e : w.drewN k = redrawn w (w.drawn + k) := rfl
    rw [e]
    exact this⟩
end Go.Proofs.YtajlkleoincoeacDoor
