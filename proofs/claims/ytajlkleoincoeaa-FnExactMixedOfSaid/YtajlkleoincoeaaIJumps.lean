/- impl: sumOf, JumpsOf, AllJumps, LoopJumps. -/
import Derived.Test.YtajlkleoincoeaaRows
import Derived.Test.YtajlkleoincoeaaIBook
namespace Go.Proofs.Ytajlkleoincoeaa
set_option maxRecDepth 100000
open Go.RowKit
set_option linter.unusedVariables false
set_option linter.unusedSimpArgs false
theorem sumOf_any (v : Value) (l : List Int) (n : Int) (w : World) (hn : 0 ≤ n) (hn2 : n * l.length ≤ 1000000000000) (hl : ∀ x ∈ l, 0 ≤ x ∧ x ≤ n) (h : SlAt (eI .i64) w w.heap.size v l) :
    Calls Try.prog 171 #[v] w fun e w' => e = .returned (.int .i64 (sumI l)) ∧ w = w' := by
  obtain ⟨A, c, rfl, h1, h2, hA⟩ := h
  unfold maxLen at h2
  go_enter Try.func171, Try.ntmps171
  go_wp2
  go_loop [3, 8] (fun s i => ∃ k : Nat, k ≤ l.length ∧ i = .int .i64 k ∧ s = .int .i64 (sumI (l.take k))) (fun _ i => l.length - (intOf i).toNat)
  case atStart => exact ⟨0, by omega, rfl, rfl⟩
  case round =>
    obtain ⟨k, hk, rfl, rfl⟩ := hrel
    by_cases hlt : k < l.length
    · obtain ⟨b1, o1, rfl, hb1, r1⟩ := hA (by omega)
      have c1 := int_cell r1 hlt
      have hg := getD_get (z := 0) hlt
      have hs := sumI_take l hg
      have hm := hl _ (List.mem_of_getElem? hg)
      have hb := sumI_bounds (l := l.take k) hn (fun x hx => hl x (List.mem_of_mem_take hx))
      have hb2 : n * ((l.take k).length : Int) ≤ n * l.length := Int.mul_le_mul_of_nonneg_left (by have := List.length_take_le k l; omega) hn
      have hb3 : n ≤ n * l.length := by
        have : n * 1 ≤ n * (l.length : Int) := Int.mul_le_mul_of_nonneg_left (by omega) hn
        omega
      generalize l.getD k 0 = x at *
      have HS := Lib.hid hs
      generalize sumI (l.take k) = s at *
      have hm1 := hm.1
      have q1 : 0 ≤ s := hb.1
      have q2 : s ≤ 1000000000000 := by omega
      have q3 : x ≤ 1000000000000 := by omega
      clear hA r1 hl hb hb2 hb3 hs hg hm hn2
      go_wp2
      go_round
      case rel =>
        go_light
        exact ⟨k + 1, by omega, by go_num, by rw [HS.out]⟩
      case measure => simp [intOf]; omega
    · have hkl : k = l.length := by omega
      subst hkl
      clear hA
      go_wp2
      go_ret
      exact ⟨ret_int (by first | rfl | rw [List.take_of_length_le (Nat.le_refl _)]), rfl⟩
theorem callJump (v : Value) (x : Int) (w : World) : (callFunc 172 #[v, .int .i64 x]).run Try.prog w = .ok (.enter 172 #[v, .int .i64 x]) w := by kernel_rfl
theorem sum_ifL (c : Int) (l : List Int) : sumI (ifL c l) = ifI c (sumI l) := by
  unfold ifL ifI; split <;> rfl
theorem ifL_mem {α : Type} {p : α → Prop} {c : Int} {l : List α} (h : ∀ x ∈ l, p x) : ∀ x ∈ ifL c l, p x := by
  unfold ifL; split
  · exact h
  · simp
theorem ifL_length_le {α : Type} (c : Int) (l : List α) : (ifL c l).length ≤ l.length := by
  unfold ifL; split <;> simp
theorem ifL_len {α : Type} {c : Int} {l : List α} (h : c = 0 → l.length ≤ 1000) : (ifL c l).length ≤ 1000 := by
  unfold ifL; split
  · rename_i hc; exact h hc
  · simp
theorem okB_of {L : List (Nat → Nat)} (h : okBC L = 0) : okB L = true := by unfold okBC at h; cases ho : okB L <;> simp_all
theorem jumps_if_len (L : List (Nat → Nat)) : (ifL (okBC L) (jumpsL L)).length ≤ 40 := by
  rcases okBC_cases L with ⟨ho, hc⟩ | ⟨ho, hc⟩
  · rw [hc, ifL1 _ (by decide)]; simp
  · rw [hc, ifL0, jumpsL_length]; have := okB_len ho; omega
theorem tabjmp_bounds (L : List (Nat → Nat)) (n : Nat) : ∀ x ∈ tab (jmp L) n, 0 ≤ x ∧ x ≤ 192 := by
  intro x hx
  obtain ⟨i, _, rfl⟩ := List.mem_map.1 hx
  exact jmp_bounds L i
end Go.Proofs.Ytajlkleoincoeaa
