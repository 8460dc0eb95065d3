/- GreatestJump: spec and impl; slices.Max, slices.Index. -/
import Derived.Test.YtennmnkjdchbhaaRows
import Derived.Test.YtennmnkjdchbhaaIJumps
import Derived.Test.YtennmnkjdchbhaaTake
import Derived.Lib.MinMax
namespace Go.Proofs.Ytennmnkjdchbhaa
set_option maxRecDepth 100000
open Go.RowKit
set_option linter.unusedVariables false
set_option linter.unusedSimpArgs false
def gTo (l : List Int) : Nat → Nat
  | 0 => 0
  | k + 1 => if l.getD (gTo l k) 0 < l.getD (k + 1) 0 then k + 1 else gTo l k
theorem gTo_le (l : List Int) (k : Nat) : gTo l k ≤ k := by
  induction k with
  | zero => exact Nat.le_refl _
  | succ k ih => unfold gTo; split <;> omega
theorem gTo_max (l : List Int) (k : Nat) : ∀ j, j ≤ k → l.getD j 0 ≤ l.getD (gTo l k) 0 := by
  induction k with
  | zero => intro j hj; obtain rfl : j = 0 := by omega
            exact Int.le_refl _
  | succ k ih =>
    intro j hj
    unfold gTo
    split
    · rename_i h
      rcases Nat.lt_or_ge k j with h1 | h1
      · obtain rfl : j = k + 1 := by omega
        exact Int.le_refl _
      · have := ih j h1; omega
    · rename_i h
      rcases Nat.lt_or_ge k j with h1 | h1
      · obtain rfl : j = k + 1 := by omega
        omega
      · exact ih j h1
theorem gTo_first (l : List Int) (k : Nat) : ∀ j, j < gTo l k → l.getD j 0 < l.getD (gTo l k) 0 := by
  induction k with
  | zero => intro j hj; simp [gTo] at hj
  | succ k ih =>
    intro j hj
    unfold gTo at hj ⊢
    split at hj
    · rename_i h
      rw [if_pos h]
      have := gTo_max l k j (by omega)
      omega
    · rename_i h
      rw [if_neg h]
      exact ih j hj
def gAt (l : List Int) : Nat := gTo l (l.length - 1)
def gMax (l : List Int) : Int := l.getD (gAt l) 0
def gjC (L : List (Nat → Nat)) : Int := if okB L then (if (jumpsL L).length = 0 then 6 else 0) else 1
theorem gjC_cases (L : List (Nat → Nat)) : (okB L = false ∧ gjC L = 1) ∨ (okB L = true ∧ (jumpsL L).length = 0 ∧ gjC L = 6) ∨ (okB L = true ∧ 0 < (jumpsL L).length ∧ gjC L = 0) := by
  unfold gjC
  cases okB L
  · simp
  · by_cases h : (jumpsL L).length = 0
    · simp [h]
    · simp [h]; omega
def gjV (L : List (Nat → Nat)) : Value := .tuple #[.int .i64 (ifI (gjC L) (gAt (jumpsL L))), .int .i64 (ifI (gjC L) (gMax (jumpsL L))), .int .i64 (gjC L)]
theorem slMax_any (v : Value) (l : List Int) (w : World) (hn : 0 < l.length) (h : SlAt (eI .i64) w w.heap.size v l) :
    Calls Try.prog 69 #[v] w fun e w' => e = .returned (.int .i64 (gMax l)) ∧ w = w' := by
  obtain ⟨A, c, rfl, h1, h2, hA⟩ := h
  obtain ⟨b1, o1, rfl, hb1, r1⟩ := hA hn
  unfold maxLen at h2
  have hl1 : ¬ ((l.length : Int) < 1) := by omega
  have c0 := int_cell r1 hn
  rw [Nat.add_zero] at c0
  clear hA
  go_enter Try.func69, Try.ntmps69
  go_wp2
  clear c0 hl1
  go_loop [3, 4] (fun m i => ∃ k : Nat, k + 1 ≤ l.length ∧ i = .int .i64 ((k + 1 : Nat) : Int) ∧ m = .int .i64 (l.getD (gTo l k) 0)) (fun _ i => l.length - (intOf i).toNat)
  case atStart => exact ⟨0, by omega, rfl, by simp [gTo, List.getElem?_eq_getElem hn]⟩
  case round =>
    obtain ⟨k, hk, rfl, rfl⟩ := hrel
    by_cases hlt : k + 1 < l.length
    · have c1 := int_cell r1 hlt
      have hst : max (l.getD (gTo l k) 0) (l.getD (k + 1) 0) = l.getD (gTo l (k + 1)) 0 := by
        have : gTo l (k + 1) = if l.getD (gTo l k) 0 < l.getD (k + 1) 0 then k + 1 else gTo l k := rfl
        rw [this]
        split <;> omega
      have hi2 : (k : Int) + 1 < (l.length : Int) := by omega
      have hi3 : ((k : Int) + 1).toNat = k + 1 := by omega
      generalize l.getD (k + 1) 0 = x at *
      generalize l.getD (gTo l k) 0 = y at *
      have HST := Lib.hid hst
      clear hst
      go_wp2
      go_round
      case rel =>
        go_light
        exact ⟨k + 1, by omega, by go_num, by rw [← HST.out]⟩
      case measure => simp [intOf]; omega
    · have hkl : k = l.length - 1 := by omega
      have hv2 : gMax l = l.getD (gTo l k) 0 := by unfold gMax gAt; rw [hkl]
      have HV2 := Lib.hid hv2
      clear hv2 hkl
      generalize l.getD (gTo l k) 0 = y at *
      go_wp2
      go_ret
      exact ⟨by rw [HV2.out]; rfl, rfl⟩
theorem slIndex_any (v : Value) (l : List Int) (j : Nat) (w : World) (hj : j < l.length) (hf : ∀ i, i < j → l.getD i 0 < l.getD j 0) (h : SlAt (eI .i64) w w.heap.size v l) :
    Calls Try.prog 99 #[v, .int .i64 (l.getD j 0)] w fun e w' => e = .returned (.int .i64 j) ∧ w = w' := by
  obtain ⟨A, c, rfl, h1, h2, hA⟩ := h
  obtain ⟨b1, o1, rfl, hb1, r1⟩ := hA (by omega)
  unfold maxLen at h2
  clear hA
  generalize hx : l.getD j 0 = x at *
  have HX := Lib.hid hx
  have HF := Lib.hid hf
  clear hx hf
  go_enter Try.func99, Try.ntmps99
  go_wp2
  go_loop [8] (fun i => ∃ k : Nat, k ≤ j ∧ i = .int .i64 (k : Int)) (fun i => l.length - (intOf i).toNat)
  case atStart => exact ⟨0, by omega, rfl⟩
  case round =>
    obtain ⟨k, hk, rfl⟩ := hrel
    have c1 := int_cell r1 (show k < l.length by omega)
    have hlk : k < l.length := by omega
    by_cases hlt : k < j
    · have hne := HF.out k hlt
      generalize l.getD k 0 = y at *
      have hd : (x == y) = false := beq_eq_false_iff_ne.2 (by omega)
      clear hne
      go_wp2
      go_round
      case rel =>
        go_light
        exact ⟨k + 1, by omega, by go_num⟩
      case measure => simp [intOf]; omega
    · obtain rfl : k = j := by omega
      rw [HX.out] at c1
      have hd : (x == x) = true := by simp
      go_wp2
      go_ret
      exact ⟨rfl, rfl⟩
set_option maxHeartbeats 1000000 in
theorem implGreatestJump_any (v : Value) (L : List (Nat → Nat)) (w : World) (hL : ltL L) (h : SlAt eFr w w.heap.size v L) :
    Calls Try.prog 66 #[v] w fun e w' => e = .returned (.tuple #[.int .i64 (ifI (gjC L) (gAt (jumpsL L))), .int .i64 (ifI (gjC L) (gMax (jumpsL L))), .int .i64 (gjC L)]) ∧ Below w.heap.size w w' := by
  have cJ := implJumpsOf_any v L w hL h
  obtain ⟨A, c, rfl⟩ := h.form
  rcases gjC_cases L with ⟨ho, hc⟩ | ⟨ho, hn, hc⟩ | ⟨ho, hn, hc⟩
  · have hk : okBC L = 1 := by simp [okBC, ho]
    rw [hk] at cJ
    rw [hc, ifI1 _ (by decide), ifI1 _ (by decide)]
    clear ho hc h hk
    go_enter Try.func66, Try.ntmps66
    go_wp2_with fail
    refine cJ.mono ?_
    rintro e w1 ⟨u, rfl, hown, hb⟩
    clear hown
    go_wp2
    go_ret3
    exact ⟨rfl, hb⟩
  · have hk : okBC L = 0 := by simp [okBC, ho]
    rw [hk, ifL0] at cJ
    rw [hc, ifI1 _ (by decide), ifI1 _ (by decide)]
    have e0 : (((jumpsL L).length : Int) == 0) = true := by rw [hn]; rfl
    clear ho hc h hn hk
    go_enter Try.func66, Try.ntmps66
    go_wp2_with fail
    refine cJ.mono ?_
    rintro e w1 ⟨u, rfl, hown, hb⟩
    obtain ⟨A2, c2, rfl⟩ : ∃ A2 c2, u = .slice A2 (jumpsL L).length c2 := (hown.sl (by decide)).form
    clear hown
    go_wp2
    go_ret3
    exact ⟨rfl, hb⟩
  · have hk : okBC L = 0 := by simp [okBC, ho]
    rw [hk, ifL0] at cJ
    rw [hc, ifI0, ifI0]
    have e0 : (((jumpsL L).length : Int) == 0) = false := beq_eq_false_iff_ne.2 (by omega)
    clear ho hc h hk
    generalize jumpsL L = l at *
    go_enter Try.func66, Try.ntmps66
    go_wp2_with fail
    refine cJ.mono ?_
    rintro e w1 ⟨u, rfl, hown, hb⟩
    have hs := hown.sl (by decide)
    obtain ⟨A2, c2, rfl⟩ := hs.form
    clear hown
    have hle := gTo_le l (l.length - 1)
    have cM := slMax_any _ l w1 hn hs
    have cI := slIndex_any _ l (gAt l) w1 (by unfold gAt; omega) (gTo_first l (l.length - 1)) hs
    rw [show l.getD (gAt l) 0 = gMax l from rfl] at cI
    clear hle hs
    generalize hgm : gMax l = m at cM cI
    generalize hga : gAt l = p at cI
    have HM := Lib.hid hgm
    have HA := Lib.hid hga
    clear hgm hga
    go_wp2_with (first | (go_at_call 69; refine cM.mono ?_; rintro e w' ⟨rfl, rfl⟩) | (go_at_call 99; refine cI.mono ?_; rintro e w' ⟨rfl, rfl⟩))
    go_ret3
    exact ⟨by rw [HM.out, HA.out]; rfl, hb⟩
end Go.Proofs.Ytennmnkjdchbhaa
