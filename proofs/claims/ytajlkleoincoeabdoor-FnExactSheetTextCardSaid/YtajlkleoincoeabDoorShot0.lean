/- SHOTS: how a shot lies in memory; the laws' own helpers over one shot: toShot, fillerShot, eqShot. -/
import Derived.Test.YtajlkleoincoeabDoorRows
import Derived.Test.YtajlkleoincoeabDoorL1
import Derived.Test.YtajlkleoincoeabDoorMem
import Derived.Test.YtajlkleoincoeabDoorRoom
namespace Go.Proofs.YtajlkleoincoeabDoor
set_option maxRecDepth 100000
open Go.RowKit
set_option linter.unusedVariables false
def SC (s : Int × Int) : Array Value := #[.int .i8 s.1, .int .i8 s.2]
def eSh : Enc (Int × Int) := ⟨fun s => (SC s).toList, 2, fun _ => rfl, fun s v hv => by simp [SC] at hv; rcases hv with rfl | rfl <;> rfl⟩
theorem eSh_n : eSh.n = 2 := rfl
def zeroS : Int × Int := (0, 0)
def fillS : Int × Int := (-101, -101)
/-- The shot at an index. -/
def sAt (L : List (Int × Int)) (i : Nat) : Int × Int := L.getD i zeroS
theorem sAt_get {L : List (Int × Int)} {i : Nat} (h : i < L.length) : L[i]? = some (sAt L i) := by
  unfold sAt
  rw [List.getD_eq_getElem?_getD, List.getElem?_eq_getElem h]; rfl
theorem sh_cell0 {w : World} {b o : Nat} {s : Int × Int} (h : w.rangeAt b o (SC s).toList) : w.cell? ⟨b, o, none⟩ = some (.int .i8 s.1) := h 0 _ rfl
theorem sh_cell1 {w : World} {b o : Nat} {s : Int × Int} (h : w.rangeAt b o (SC s).toList) : w.cell? ⟨b, o + 1, none⟩ = some (.int .i8 s.2) := h 1 _ rfl
set_option maxHeartbeats 400000 in
theorem toShot_any (s : Int × Int) (w : World) :
    Calls Tryd.prog 51 #[.agg (SC s)] w fun e w' => e = .returned (.agg (SC s)) ∧ Below w.heap.size w w' := by
  have h0 := Below.refl w.heap.size w
  go_enter Tryd.func51, Tryd.ntmps51
  unfold SC
  go_wp2
  refine bodyPost_ret_row (p := 2) (ty := 74) (cs := SC s) rfl rfl (g := w.heap.size + 1) (t := 74) ?_ Tryd.underlying74 rfl (by kernel_rfl) rfl ⟨rfl, ?_⟩
  · have := (Row.new (w.alloc (.cells (SC s) 76)) 74 (SC s)).alloc (.cells (SC s) 74)
    rw [World.size_alloc] at this
    exact this
  · exact ((h0.alloc (Nat.le_refl _) _).alloc (by simp) _).alloc (by simp; omega) _
set_option maxHeartbeats 400000 in
theorem filler_any (w : World) :
    Calls Tryd.prog 52 #[] w fun e w' => e = .returned (.agg (SC fillS)) ∧ Below w.heap.size w w' := by
  go_enter Tryd.func52, Tryd.ntmps52
  go_wp2
  refine bodyPost_ret_row (p := 0) (ty := 74) (cs := SC fillS) rfl rfl (Row.new w 74 (SC fillS)) Tryd.underlying74 rfl (by kernel_rfl) rfl ⟨rfl, (Below.refl _ _).alloc (Nat.le_refl _) _⟩
set_option maxHeartbeats 400000 in
theorem eqShot_any (s t : Int × Int) (w : World) :
    Calls Tryd.prog 56 #[.agg (SC s), .agg (SC t)] w fun e w' => e = .returned (.bool (decide (s = t))) ∧ Below w.heap.size w w' := by
  obtain ⟨a, b⟩ := s
  obtain ⟨c, d⟩ := t
  have hb := ((Below.refl w.heap.size w).alloc (Nat.le_refl _) (.cells (SC (a, b)) 74)).alloc (by simp) (.cells (SC (c, d)) 74)
  unfold SC
  unfold SC at hb
  by_cases h1 : a = c
  · by_cases h2 : b = d
    · have e1 : (a != c) = false := by simp [h1]
      have e2 : (b != d) = false := by simp [h2]
      have hv : decide ((a, b) = (c, d)) = true := by simp [h1, h2]
      rw [hv]
      clear h1 h2 hv
      go_enter Tryd.func56, Tryd.ntmps56
      go_wp2
      go_ret
      exact ⟨rfl, hb⟩
    · have e1 : (a != c) = false := by simp [h1]
      have e2 : (b != d) = true := by simp [h2]
      have hv : decide ((a, b) = (c, d)) = false := by simp [h2]
      rw [hv]
      clear h1 h2 hv
      go_enter Tryd.func56, Tryd.ntmps56
      go_wp2
      go_ret
      exact ⟨rfl, hb⟩
  · have e1 : (a != c) = true := by simp [h1]
    have hv : decide ((a, b) = (c, d)) = false := by simp [h1]
    rw [hv]
    clear h1 hv
    go_enter Tryd.func56, Tryd.ntmps56
    go_wp2
    go_ret
    exact ⟨rfl, hb⟩
end Go.Proofs.YtajlkleoincoeabDoor
