/- KEYS: how a key lies in memory; the laws' own helpers over one key: toKey, fillerKey, eqKey. -/
import Derived.Test.YtajlkleoincoeacDoorRows
import Derived.Test.YtajlkleoincoeacDoorL1
import Derived.Test.YtajlkleoincoeacDoorMem
import Derived.Test.YtajlkleoincoeacDoorRoom
namespace Go.Proofs.YtajlkleoincoeacDoor
set_option maxRecDepth 100000
open Go.RowKit
set_option linter.unusedVariables false
def KC (s : Int × Int × Int) : Array Value := #[.int .i16 s.1, .int .i8 s.2.1, .int .i8 s.2.2]
def eKy : Enc (Int × Int × Int) := ⟨fun s => (KC s).toList, 3, fun _ => rfl, fun s v hv => by simp [KC] at hv; rcases hv with rfl | rfl | rfl <;> rfl⟩
theorem eKy_n : eKy.n = 3 := rfl
def zeroK : Int × Int × Int := (0, 0, 0)
def fillK : Int × Int × Int := (-30101, -101, -101)
/-- The key at an index. -/
def kAt (L : List (Int × Int × Int)) (i : Nat) : Int × Int × Int := L.getD i zeroK
theorem kAt_get {L : List (Int × Int × Int)} {i : Nat} (h : i < L.length) : L[i]? = some (kAt L i) := by
  unfold kAt
  rw [List.getD_eq_getElem?_getD, List.getElem?_eq_getElem h]; rfl
theorem ky_cell0 {w : World} {b o : Nat} {s : Int × Int × Int} (h : w.rangeAt b o (KC s).toList) : w.cell? ⟨b, o, none⟩ = some (.int .i16 s.1) := h 0 _ rfl
theorem ky_cell1 {w : World} {b o : Nat} {s : Int × Int × Int} (h : w.rangeAt b o (KC s).toList) : w.cell? ⟨b, o + 1, none⟩ = some (.int .i8 s.2.1) := h 1 _ rfl
theorem ky_cell2 {w : World} {b o : Nat} {s : Int × Int × Int} (h : w.rangeAt b o (KC s).toList) : w.cell? ⟨b, o + 2, none⟩ = some (.int .i8 s.2.2) := h 2 _ rfl
theorem ky_field0 (t x y : Int) (w : World) : (Instr.field 82 (.agg #[.int .i16 t, .int .i8 x, .int .i8 y]) 0).run Tryd.prog w = .ok (.int .i16 t) w := by kernel_rfl
theorem ky_field1 (t x y : Int) (w : World) : (Instr.field 82 (.agg #[.int .i16 t, .int .i8 x, .int .i8 y]) 1).run Tryd.prog w = .ok (.int .i8 x) w := by kernel_rfl
theorem ky_field2 (t x y : Int) (w : World) : (Instr.field 82 (.agg #[.int .i16 t, .int .i8 x, .int .i8 y]) 2).run Tryd.prog w = .ok (.int .i8 y) w := by kernel_rfl
/-- What a key's fields hold. -/
def ltK1 (s : Int × Int × Int) : Prop := (-32768 ≤ s.1 ∧ s.1 ≤ 32767) ∧ (-128 ≤ s.2.1 ∧ s.2.1 ≤ 127) ∧ -128 ≤ s.2.2 ∧ s.2.2 ≤ 127
def ltK (L : List (Int × Int × Int)) : Prop := ∀ s ∈ L, ltK1 s
theorem kAt_lt {L : List (Int × Int × Int)} (h : ltK L) (i : Nat) : ltK1 (kAt L i) := by
  by_cases hi : i < L.length
  · exact h _ (List.mem_of_getElem? (kAt_get hi))
  · unfold kAt
    rw [List.getD_eq_getElem?_getD, List.getElem?_eq_none (by omega)]
    simp [zeroK, ltK1]
set_option maxHeartbeats 400000 in
theorem toKey_any (s : Int × Int × Int) (w : World) :
    Calls Tryd.prog 50 #[.agg (KC s)] w fun e w' => e = .returned (.agg (KC s)) ∧ Below w.heap.size w w' := by
  have h0 := Below.refl w.heap.size w
  go_enter Tryd.func50, Tryd.ntmps50
  unfold KC
  go_wp2
  refine bodyPost_ret_row (p := 2) (ty := 82) (cs := KC s) rfl rfl (g := w.heap.size + 1) (t := 82) ?_ Tryd.underlying82 rfl (by kernel_rfl) rfl ⟨rfl, ?_⟩
  · have := (Row.new (w.alloc (.cells (KC s) 84)) 82 (KC s)).alloc (.cells (KC s) 82)
    rw [World.size_alloc] at this
    exact this
  · exact ((h0.alloc (Nat.le_refl _) _).alloc (by simp) _).alloc (by simp; omega) _
set_option maxHeartbeats 400000 in
theorem fillerK_any (w : World) :
    Calls Tryd.prog 51 #[] w fun e w' => e = .returned (.agg (KC fillK)) ∧ Below w.heap.size w w' := by
  go_enter Tryd.func51, Tryd.ntmps51
  go_wp2
  refine bodyPost_ret_row (p := 0) (ty := 82) (cs := KC fillK) rfl rfl (Row.new w 82 (KC fillK)) Tryd.underlying82 rfl (by kernel_rfl) rfl ⟨rfl, (Below.refl _ _).alloc (Nat.le_refl _) _⟩
set_option maxHeartbeats 400000 in
theorem eqKey_any (s t : Int × Int × Int) (w : World) :
    Calls Tryd.prog 54 #[.agg (KC s), .agg (KC t)] w fun e w' => e = .returned (.bool (decide (s = t))) ∧ Below w.heap.size w w' := by
  obtain ⟨a, b, p⟩ := s
  obtain ⟨c, d, q⟩ := t
  have hb := ((Below.refl w.heap.size w).alloc (Nat.le_refl _) (.cells (KC (a, b, p)) 82)).alloc (by simp) (.cells (KC (c, d, q)) 82)
  unfold KC
  unfold KC at hb
  by_cases h1 : a = c
  · by_cases h2 : b = d
    · by_cases h3 : p = q
      · have e1 : (a != c) = false := by simp [h1]
        have e2 : (b != d) = false := by simp [h2]
        have e3 : (p != q) = false := by simp [h3]
        have hv : decide ((a, b, p) = (c, d, q)) = true := by simp [h1, h2, h3]
        clear h1 h2 h3
        rw [hv]
        clear hv
        go_enter Tryd.func54, Tryd.ntmps54
        go_wp2
        go_ret
        exact ⟨rfl, hb⟩
      · have e1 : (a != c) = false := by simp [h1]
        have e2 : (b != d) = false := by simp [h2]
        have e3 : (p != q) = true := by simp [h3]
        have hv : decide ((a, b, p) = (c, d, q)) = false := by simp [h3]
        clear h1 h2 h3
        rw [hv]
        clear hv
        go_enter Tryd.func54, Tryd.ntmps54
        go_wp2
        go_ret
        exact ⟨rfl, hb⟩
    · have e1 : (a != c) = false := by simp [h1]
      have e2 : (b != d) = true := by simp [h2]
      have hv : decide ((a, b, p) = (c, d, q)) = false := by simp [h2]
      clear h1 h2
      rw [hv]
      clear hv
      go_enter Tryd.func54, Tryd.ntmps54
      go_wp2
      go_ret
      exact ⟨rfl, hb⟩
  · have e1 : (a != c) = true := by simp [h1]
    have hv : decide ((a, b, p) = (c, d, q)) = false := by simp [h1]
    clear h1
    rw [hv]
    clear hv
    go_enter Tryd.func54, Tryd.ntmps54
    go_wp2
    go_ret
    exact ⟨rfl, hb⟩
end Go.Proofs.YtajlkleoincoeacDoor
