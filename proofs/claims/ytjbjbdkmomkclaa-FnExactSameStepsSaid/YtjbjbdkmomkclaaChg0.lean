/- CHANGES: how a change lies in memory: an int8 and a uint16; the laws' own helpers over one change. -/
import Derived.Test.YtjbjbdkmomkclaaRows
import Derived.Test.YtjbjbdkmomkclaaL1
import Derived.Test.YtjbjbdkmomkclaaMem
import Derived.Test.YtjbjbdkmomkclaaRoom
namespace Go.Proofs.Ytjbjbdkmomkclaa
set_option maxRecDepth 100000
open Go.RowKit
set_option linter.unusedVariables false
def CgC (s : Int × Int) : Array Value := #[.int .i8 s.1, .int .u16 s.2]
def eCg : Enc (Int × Int) := ⟨fun s => (CgC s).toList, 2, fun _ => rfl, fun s v hv => by simp [CgC] at hv; rcases hv with rfl | rfl <;> rfl⟩
theorem eCg_n : eCg.n = 2 := rfl
def zeroCg : Int × Int := (0, 0)
def fillCg : Int × Int := (-101, 60201)
/-- The change at an index. -/
def cgAt (L : List (Int × Int)) (i : Nat) : Int × Int := L.getD i zeroCg
theorem cgAt_get {L : List (Int × Int)} {i : Nat} (h : i < L.length) : L[i]? = some (cgAt L i) := by
  unfold cgAt
  rw [List.getD_eq_getElem?_getD, List.getElem?_eq_getElem h]; rfl
theorem cg_cell0 {w : World} {b o : Nat} {s : Int × Int} (h : w.rangeAt b o (CgC s).toList) : w.cell? ⟨b, o, none⟩ = some (.int .i8 s.1) := h 0 _ rfl
theorem cg_cell1 {w : World} {b o : Nat} {s : Int × Int} (h : w.rangeAt b o (CgC s).toList) : w.cell? ⟨b, o + 1, none⟩ = some (.int .u16 s.2) := h 1 _ rfl
/-- What a change's fields hold. -/
def ltCg1 (s : Int × Int) : Prop := (-128 ≤ s.1 ∧ s.1 ≤ 127) ∧ 0 ≤ s.2 ∧ s.2 ≤ 65535
def ltCg (L : List (Int × Int)) : Prop := ∀ s ∈ L, ltCg1 s
theorem cgAt_lt {L : List (Int × Int)} (h : ltCg L) (i : Nat) : ltCg1 (cgAt L i) := by
  by_cases hi : i < L.length
  · exact h _ (List.mem_of_getElem? (cgAt_get hi))
  · unfold cgAt
    rw [List.getD_eq_getElem?_getD, List.getElem?_eq_none (by omega)]
    simp [zeroCg, ltCg1]
set_option maxHeartbeats 400000 in
theorem toChange_any (s : Int × Int) (w : World) :
    Calls Try.prog 96 #[.agg (CgC s)] w fun e w' => e = .returned (.agg (CgC s)) ∧ Below w.heap.size w w' := by
  have h0 := Below.refl w.heap.size w
  go_enter Try.func96, Try.ntmps96
  unfold CgC
  go_wp2
  refine bodyPost_ret_row (p := 2) (ty := 113) (cs := CgC s) rfl rfl (g := w.heap.size + 1) (t := 113) ?_ Try.underlying113 rfl (by kernel_rfl) rfl ⟨rfl, ?_⟩
  · have := (Row.new (w.alloc (.cells (CgC s) 131)) 113 (CgC s)).alloc (.cells (CgC s) 113)
    rw [World.size_alloc] at this
    exact this
  · exact ((h0.alloc (Nat.le_refl _) _).alloc (by simp) _).alloc (by simp; omega) _
set_option maxHeartbeats 400000 in
theorem fillerCg_any (w : World) :
    Calls Try.prog 81 #[] w fun e w' => e = .returned (.agg (CgC fillCg)) ∧ Below w.heap.size w w' := by
  go_enter Try.func81, Try.ntmps81
  go_wp2
  refine bodyPost_ret_row (p := 0) (ty := 113) (cs := CgC fillCg) rfl rfl (Row.new w 113 (CgC fillCg)) Try.underlying113 rfl (by kernel_rfl) rfl ⟨rfl, (Below.refl _ _).alloc (Nat.le_refl _) _⟩
set_option maxHeartbeats 1000000 in
theorem eqChange_any (s t : Int × Int) (w : World) :
    Calls Try.prog 98 #[.agg (CgC s), .agg (CgC t)] w fun e w' => e = .returned (.bool (decide (s = t))) ∧ Below w.heap.size w w' := by
  obtain ⟨a0, a1⟩ := s
  obtain ⟨b0, b1⟩ := t
  have hb := ((Below.refl w.heap.size w).alloc (Nat.le_refl _) (.cells (CgC (a0, a1)) 113)).alloc (by simp) (.cells (CgC (b0, b1)) 113)
  unfold CgC
  unfold CgC at hb
  by_cases h0 : a0 = b0
  · by_cases h1 : a1 = b1
    · have e0 : (a0 != b0) = false := by simp [h0]
      have e1 : (a1 != b1) = false := by simp [h1]
      have hv : decide ((a0, a1) = (b0, b1)) = true := by simp [h0, h1]
      clear h0 h1
      rw [hv]
      clear hv
      go_enter Try.func98, Try.ntmps98
      go_wp2
      go_ret
      exact ⟨rfl, hb⟩
    · have e0 : (a0 != b0) = false := by simp [h0]
      have e1 : (a1 != b1) = true := by simp [h1]
      have hv : decide ((a0, a1) = (b0, b1)) = false := by simp [h1]
      clear h0 h1
      rw [hv]
      clear hv
      go_enter Try.func98, Try.ntmps98
      go_wp2
      go_ret
      exact ⟨rfl, hb⟩
  · have e0 : (a0 != b0) = true := by simp [h0]
    have hv : decide ((a0, a1) = (b0, b1)) = false := by simp [h0]
    clear h0
    rw [hv]
    clear hv
    go_enter Try.func98, Try.ntmps98
    go_wp2
    go_ret
    exact ⟨rfl, hb⟩
end Go.Proofs.Ytjbjbdkmomkclaa
