/- TEXTS, PLAINLY: words that are joined by a byte; decimal digits. No function of the program is named. -/
import Derived.Test.YtajlkleoincoeabB2
import Derived.Lib.Join
import Derived.Lib.ItoaNum
import Derived.Laws.Concat
namespace Go.Proofs.Ytajlkleoincoeab
set_option linter.unusedVariables false
def bsOf (l : List UInt8) : ByteArray := ⟨l.toArray⟩
theorem bsOf_size (l : List UInt8) : (bsOf l).size = l.length := by simp [bsOf, ByteArray.size]
theorem bsOf_data (l : List UInt8) : (bsOf l).data.toList = l := by simp [bsOf]
theorem bsOf_list (x : ByteArray) : bsOf x.data.toList = x := by simp [bsOf]
theorem bsOf_append (a b : List UInt8) : bsOf a ++ bsOf b = bsOf (a ++ b) := by
  ext1
  simp [bsOf]
def joinW (s : UInt8) (l : List (List UInt8)) : List UInt8 := Lib.join l [s]
theorem joinW_nil (s : UInt8) : joinW s [] = [] := rfl
theorem joinTail_snoc (s : UInt8) (r : List (List UInt8)) (x : List UInt8) : Lib.joinTail [s] (r ++ [x]) = Lib.joinTail [s] r ++ [s] ++ x := by simp [Lib.joinTail]
theorem joinW_snoc0 (s : UInt8) (x : List UInt8) : joinW s ([] ++ [x]) = x := by simp [joinW, Lib.join_one]
theorem joinW_snoc (s : UInt8) (l : List (List UInt8)) (x : List UInt8) (h : l ≠ []) : joinW s (l ++ [x]) = joinW s l ++ [s] ++ x := by
  cases l with
  | nil => exact absurd rfl h
  | cons y r => simp only [joinW, List.cons_append, Lib.join_cons, joinTail_snoc]; simp
theorem joinW_len (s : UInt8) (l : List (List UInt8)) (m : Nat) (h : ∀ x ∈ l, x.length ≤ m) : (joinW s l).length ≤ l.length * (m + 1) := by
  cases l with
  | nil => simp [joinW, Lib.join_nil]
  | cons y r =>
    unfold joinW
    rw [Lib.join_length]
    have hl : ∀ q : List (List UInt8), (∀ x ∈ q, x.length ≤ m) → Lib.lens q ≤ q.length * m := by
      intro q
      induction q with
      | nil => intro _; simp [Lib.lens]
      | cons a q ih =>
        intro hq
        have h1 := ih (fun x hx => hq x (by simp [hx]))
        have h2 := hq a (by simp)
        simp only [Lib.lens, List.map_cons, List.sum_cons, List.length_cons] at h1 ⊢
        rw [Nat.succ_mul]; omega
    have := hl _ h
    simp only [List.length_cons, List.length_nil] at this ⊢
    rw [Nat.mul_add]; omega
/-- Decimal digits. -/
def dcL (n : Nat) : List UInt8 := Lib.decDigits n
theorem dcL_small {n : Nat} (h : n < 10) : dcL n = [UInt8.ofNat (48 + n)] := by unfold dcL; rw [Lib.decDigits, dif_pos h]
theorem dcL_big {n : Nat} (h : ¬ n < 10) : dcL n = dcL (n / 10) ++ [UInt8.ofNat (48 + n % 10)] := by unfold dcL; rw [Lib.decDigits, dif_neg h]
theorem dcL_len2 {n : Nat} (h : n < 100) : (dcL n).length ≤ 2 := by
  by_cases h1 : n < 10
  · rw [dcL_small h1]; simp
  · rw [dcL_big h1, dcL_small (by omega)]; simp
theorem dcL_len3 {n : Nat} (h : n < 1000) : (dcL n).length ≤ 3 := by
  by_cases h1 : n < 10
  · rw [dcL_small h1]; simp
  · rw [dcL_big h1]; have := dcL_len2 (n := n / 10) (by omega); simp; omega
end Go.Proofs.Ytajlkleoincoeab
