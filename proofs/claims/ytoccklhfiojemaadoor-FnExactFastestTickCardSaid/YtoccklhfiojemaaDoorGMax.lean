/- The greatest of a list of numbers; slices.Max, slices.Index (as in XGreat). -/
import Derived.Test.YtoccklhfiojemaaDoorRows
import Derived.Test.YtoccklhfiojemaaDoorLI64
import Derived.Test.YtoccklhfiojemaaDoorB2
import Derived.Lib.MinMax
namespace Go.Proofs.YtoccklhfiojemaaDoor
set_option maxRecDepth 100000
open Go.RowKit
set_option linter.unusedVariables false
set_option linter.unusedSimpArgs false
def gTo (l : List Int) : Nat → Nat
  | 0 => 0
  | k + 1 => if l.getD (gTo l k) 0 < l.getD (k + 1) 0 then k + 1 else gTo l k
theorem gTo_le (l : List Int) (k : Nat) : gTo l k ≤ k := by
  induction k with
  | zero => exact Nat.le_refl _
  | succ k ih => unfold gTo; split <;> omega
theorem gTo_max (l : List Int) (k : Nat) : ∀ j, j ≤ k → l.getD j 0 ≤ l.getD (gTo l k) 0 := by
  induction k with
  | zero => intro j hj; obtain rfl : j = 0 := by omega
            exact Int.le_refl _
  | succ k ih =>
    intro j hj
    unfold gTo
    split
    · rename_i h
      rcases Nat.lt_or_ge k j with h1 | h1
      · obtain rfl : j = k + 1 := by omega
        exact Int.le_refl _
      · have := ih j h1; omega
    · rename_i h
      rcases Nat.lt_or_ge k j with h1 | h1
      · obtain rfl : j = k + 1 := by omega
        omega
      · exact ih j h1
theorem gTo_first (l : List Int) (k : Nat) : ∀ j, j < gTo l k → l.getD j 0 < l.getD (gTo l k) 0 := by
  induction k with
  | zero => intro j hj; simp [gTo] at hj
  | succ k ih =>
    intro j hj
    unfold gTo at hj ⊢
    split at hj
    · rename_i h
      rw [if_pos h]
      have := gTo_max l k j (by omega)
      omega
    · rename_i h
      rw [if_neg h]
      exact ih j hj
def gAt (l : List Int) : Nat := gTo l (l.length - 1)
def gMax (l : List Int) : Int := l.getD (gAt l) 0
theorem slMax_any (v : Value) (l : List Int) (w : World) (hn : 0 < l.length) (h : SlAt (eI .i64) w w.heap.size v l) :
    Calls Tryd.prog 45 #[v] w fun e w' => e = .returned (.int .i64 (gMax l)) ∧ w = w' := by
  obtain ⟨A, c, rfl, h1, h2, hA⟩ := h
  obtain ⟨b1, o1, rfl, hb1, r1⟩ := hA hn
  unfold maxLen at h2
  have hl1 : ¬ ((l.length : Int) < 1) := by omega
  have c0 := int_cell r1 hn
  rw [Nat.add_zero] at c0
  clear hA
  go_enter Tryd.func45, Tryd.ntmps45
  go_wp2
  clear c0 hl1
  go_loop [3, 4] (fun m i => ∃ k : Nat, k + 1 ≤ l.length ∧ i = .int .i64 ((k + 1 : Nat) : Int) ∧ m = .int .i64 (l.getD (gTo l k) 0)) (fun _ i => l.length - (intOf i).toNat)
  case atStart => exact ⟨0, by omega, rfl, by simp [gTo, List.getElem?_eq_getElem hn]⟩
  case round =>
    obtain ⟨k, hk, rfl, rfl⟩ := hrel
    by_cases hlt : k + 1 < l.length
    · have c1 := int_cell r1 hlt
      have hst : max (l.getD (gTo l k) 0) (l.getD (k + 1) 0) = l.getD (gTo l (k + 1)) 0 := by
        have : gTo l (k + 1) = if l.getD (gTo l k) 0 < l.getD (k + 1) 0 then k + 1 else gTo l k := rfl
        rw [this]
        split <;> omega
      have hi2 : (k : Int) + 1 < (l.length : Int) := by omega
      have hi3 : ((k : Int) + 1).toNat = k + 1 := by omega
      generalize l.getD (k + 1) 0 = x at *
      generalize l.getD (gTo l k) 0 = y at *
      have HST := Lib.hid hst
      clear hst
      go_wp2
      go_round
      case rel =>
        go_light
        exact ⟨k + 1, by omega, by go_num, by rw [← HST.out]⟩
      case measure => simp [intOf]; omega
    · have hkl : k = l.length - 1 := by omega
      have hv2 : gMax l = l.getD (gTo l k) 0 := by unfold gMax gAt; rw [hkl]
      have HV2 := Lib.hid hv2
      clear hv2 hkl
      generalize l.getD (gTo l k) 0 = y at *
      go_wp2
      go_ret
      exact ⟨by rw [HV2.out]; rfl, rfl⟩
theorem slIndex_any (v : Value) (l : List Int) (j : Nat) (w : World) (hj : j < l.length) (hf : ∀ i, i < j → l.getD i 0 < l.getD j 0) (h : SlAt (eI .i64) w w.heap.size v l) :
    Calls Tryd.prog 46 #[v, .int .i64 (l.getD j 0)] w fun e w' => e = .returned (.int .i64 j) ∧ w = w' := by
  obtain ⟨A, c, rfl, h1, h2, hA⟩ := h
  obtain ⟨b1, o1, rfl, hb1, r1⟩ := hA (by omega)
  unfold maxLen at h2
  clear hA
  generalize hx : l.getD j 0 = x at *
  have HX := Lib.hid hx
  have HF := Lib.hid hf
  clear hx hf
  go_enter Tryd.func46, Tryd.ntmps46
  go_wp2
  go_loop [8] (fun i => ∃ k : Nat, k ≤ j ∧ i = .int .i64 (k : Int)) (fun i => l.length - (intOf i).toNat)
  case atStart => exact ⟨0, by omega, rfl⟩
  case round =>
    obtain ⟨k, hk, rfl⟩ := hrel
    have c1 := int_cell r1 (show k < l.length by omega)
    have hlk : k < l.length := by omega
    by_cases hlt : k < j
    · have hne := HF.out k hlt
      generalize l.getD k 0 = y at *
      have hd : (x == y) = false := beq_eq_false_iff_ne.2 (by omega)
      clear hne
      go_wp2
      go_round
      case rel =>
        go_light
        exact ⟨k + 1, by omega, by go_num⟩
      case measure => simp [intOf]; omega
    · obtain rfl : k = j := by omega
      rw [HX.out] at c1
      have hd : (x == x) = true := by simp
      go_wp2
      go_ret
      exact ⟨rfl, rfl⟩
end Go.Proofs.YtoccklhfiojemaaDoor
