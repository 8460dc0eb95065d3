/- STROKES: how a stroke lies in memory: three int8 and a bool; the laws' own helpers over one stroke. -/
import Derived.Test.YtjbjbdkmomkclaaRows
import Derived.Test.YtjbjbdkmomkclaaL1
import Derived.Test.YtjbjbdkmomkclaaMem
import Derived.Test.YtjbjbdkmomkclaaRoom
namespace Go.Proofs.Ytjbjbdkmomkclaa
set_option maxRecDepth 100000
open Go.RowKit
set_option linter.unusedVariables false
def SkC (s : Int × Int × Int × Bool) : Array Value := #[.int .i8 s.1, .int .i8 s.2.1, .int .i8 s.2.2.1, .bool s.2.2.2]
def eSk : Enc (Int × Int × Int × Bool) := ⟨fun s => (SkC s).toList, 4, fun _ => rfl, fun s v hv => by simp [SkC] at hv; rcases hv with rfl | rfl | rfl | rfl <;> rfl⟩
theorem eSk_n : eSk.n = 4 := rfl
def zeroSk : Int × Int × Int × Bool := (0, 0, 0, false)
def fillSk : Int × Int × Int × Bool := (-101, -101, -101, true)
/-- The stroke at an index. -/
def skAt (L : List (Int × Int × Int × Bool)) (i : Nat) : Int × Int × Int × Bool := L.getD i zeroSk
theorem skAt_get {L : List (Int × Int × Int × Bool)} {i : Nat} (h : i < L.length) : L[i]? = some (skAt L i) := by
  unfold skAt
  rw [List.getD_eq_getElem?_getD, List.getElem?_eq_getElem h]; rfl
theorem sk_cell0 {w : World} {b o : Nat} {s : Int × Int × Int × Bool} (h : w.rangeAt b o (SkC s).toList) : w.cell? ⟨b, o, none⟩ = some (.int .i8 s.1) := h 0 _ rfl
theorem sk_cell1 {w : World} {b o : Nat} {s : Int × Int × Int × Bool} (h : w.rangeAt b o (SkC s).toList) : w.cell? ⟨b, o + 1, none⟩ = some (.int .i8 s.2.1) := h 1 _ rfl
theorem sk_cell2 {w : World} {b o : Nat} {s : Int × Int × Int × Bool} (h : w.rangeAt b o (SkC s).toList) : w.cell? ⟨b, o + 2, none⟩ = some (.int .i8 s.2.2.1) := h 2 _ rfl
theorem sk_cell3 {w : World} {b o : Nat} {s : Int × Int × Int × Bool} (h : w.rangeAt b o (SkC s).toList) : w.cell? ⟨b, o + 3, none⟩ = some (.bool s.2.2.2) := h 3 _ rfl
/-- What a stroke's fields hold. -/
def ltSk1 (s : Int × Int × Int × Bool) : Prop := (-128 ≤ s.1 ∧ s.1 ≤ 127) ∧ (-128 ≤ s.2.1 ∧ s.2.1 ≤ 127) ∧ -128 ≤ s.2.2.1 ∧ s.2.2.1 ≤ 127
def ltSk (L : List (Int × Int × Int × Bool)) : Prop := ∀ s ∈ L, ltSk1 s
theorem skAt_lt {L : List (Int × Int × Int × Bool)} (h : ltSk L) (i : Nat) : ltSk1 (skAt L i) := by
  by_cases hi : i < L.length
  · exact h _ (List.mem_of_getElem? (skAt_get hi))
  · unfold skAt
    rw [List.getD_eq_getElem?_getD, List.getElem?_eq_none (by omega)]
    simp [zeroSk, ltSk1]
set_option maxHeartbeats 400000 in
theorem toStroke_any (s : Int × Int × Int × Bool) (w : World) :
    Calls Try.prog 68 #[.agg (SkC s)] w fun e w' => e = .returned (.agg (SkC s)) ∧ Below w.heap.size w w' := by
  have h0 := Below.refl w.heap.size w
  go_enter Try.func68, Try.ntmps68
  unfold SkC
  go_wp2
  refine bodyPost_ret_row (p := 2) (ty := 97) (cs := SkC s) rfl rfl (g := w.heap.size + 1) (t := 97) ?_ Try.underlying97 rfl (by kernel_rfl) rfl ⟨rfl, ?_⟩
  · have := (Row.new (w.alloc (.cells (SkC s) 101)) 97 (SkC s)).alloc (.cells (SkC s) 97)
    rw [World.size_alloc] at this
    exact this
  · exact ((h0.alloc (Nat.le_refl _) _).alloc (by simp) _).alloc (by simp; omega) _
set_option maxHeartbeats 400000 in
theorem fillerSk_any (w : World) :
    Calls Try.prog 69 #[] w fun e w' => e = .returned (.agg (SkC fillSk)) ∧ Below w.heap.size w w' := by
  go_enter Try.func69, Try.ntmps69
  go_wp2
  refine bodyPost_ret_row (p := 0) (ty := 97) (cs := SkC fillSk) rfl rfl (Row.new w 97 (SkC fillSk)) Try.underlying97 rfl (by kernel_rfl) rfl ⟨rfl, (Below.refl _ _).alloc (Nat.le_refl _) _⟩
set_option maxHeartbeats 1000000 in
theorem eqStroke_any (s t : Int × Int × Int × Bool) (w : World) :
    Calls Try.prog 91 #[.agg (SkC s), .agg (SkC t)] w fun e w' => e = .returned (.bool (decide (s = t))) ∧ Below w.heap.size w w' := by
  obtain ⟨a0, a1, a2, a3⟩ := s
  obtain ⟨b0, b1, b2, b3⟩ := t
  have hb := ((Below.refl w.heap.size w).alloc (Nat.le_refl _) (.cells (SkC (a0, a1, a2, a3)) 97)).alloc (by simp) (.cells (SkC (b0, b1, b2, b3)) 97)
  unfold SkC
  unfold SkC at hb
  by_cases h0 : a0 = b0
  · by_cases h1 : a1 = b1
    · by_cases h2 : a2 = b2
      · by_cases h3 : a3 = b3
        · have e0 : (a0 != b0) = false := by simp [h0]
          have e1 : (a1 != b1) = false := by simp [h1]
          have e2 : (a2 != b2) = false := by simp [h2]
          have hv : decide ((a0, a1, a2, a3) = (b0, b1, b2, b3)) = true := decide_eq_true (by rw [h0, h1, h2, h3])
          rw [hv]
          clear hv h0 h1 h2
          revert h3
          cases a3 <;> cases b3 <;> intro h3 <;> first | (exfalso; revert h3; decide) | skip
          all_goals
            clear h3
            go_enter Try.func91, Try.ntmps91
            go_wp2
            go_ret
            exact ⟨rfl, hb⟩
        · have e0 : (a0 != b0) = false := by simp [h0]
          have e1 : (a1 != b1) = false := by simp [h1]
          have e2 : (a2 != b2) = false := by simp [h2]
          have hv : decide ((a0, a1, a2, a3) = (b0, b1, b2, b3)) = false := decide_eq_false (fun e => h3 (congrArg (fun s => s.2.2.2) e))
          rw [hv]
          clear hv h0 h1 h2
          revert h3
          cases a3 <;> cases b3 <;> intro h3 <;> first | (exfalso; revert h3; decide) | skip
          all_goals
            clear h3
            go_enter Try.func91, Try.ntmps91
            go_wp2
            go_ret
            exact ⟨rfl, hb⟩
      · have e0 : (a0 != b0) = false := by simp [h0]
        have e1 : (a1 != b1) = false := by simp [h1]
        have e2 : (a2 != b2) = true := by simp [h2]
        have hv : decide ((a0, a1, a2, a3) = (b0, b1, b2, b3)) = false := by simp [h2]
        clear h0 h1 h2
        rw [hv]
        clear hv
        go_enter Try.func91, Try.ntmps91
        go_wp2
        go_ret
        exact ⟨rfl, hb⟩
    · have e0 : (a0 != b0) = false := by simp [h0]
      have e1 : (a1 != b1) = true := by simp [h1]
      have hv : decide ((a0, a1, a2, a3) = (b0, b1, b2, b3)) = false := by simp [h1]
      clear h0 h1
      rw [hv]
      clear hv
      go_enter Try.func91, Try.ntmps91
      go_wp2
      go_ret
      exact ⟨rfl, hb⟩
  · have e0 : (a0 != b0) = true := by simp [h0]
    have hv : decide ((a0, a1, a2, a3) = (b0, b1, b2, b3)) = false := by simp [h0]
    clear h0
    rw [hv]
    clear hv
    go_enter Try.func91, Try.ntmps91
    go_wp2
    go_ret
    exact ⟨rfl, hb⟩
end Go.Proofs.Ytjbjbdkmomkclaa
