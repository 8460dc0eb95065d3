/- EASES, PLAINLY, on: they never go back, and end at the whole way; numbers between two, turned about. No program is named. -/
import Derived.Test.YtoccklhfiojemabEaseM
namespace Go.Proofs.Ytoccklhfiojemab
theorem sq_mono {a b : Int} (h0 : 0 ≤ a) (h : a ≤ b) : a * a ≤ b * b := Int.mul_le_mul h h h0 (by omega)
theorem div_mono {a b c : Int} (hc : 0 < c) (h : a ≤ b) : a / c ≤ b / c := Int.ediv_le_ediv hc h
theorem two_sq (a : Int) : 2 * a * a = 2 * (a * a) := by rw [Int.mul_assoc]
theorem half_sq {a n : Int} (h0 : 0 ≤ a) (h : 2 * a ≤ n) (hn : 1 ≤ n) : 2 * a * a * 1000 / (n * n) ≤ 500 := by
  have h1 := sq_mono (a := 2 * a) (b := n) (by omega) h
  have h2 : 2 * a * (2 * a) = 4 * (a * a) := by rw [Int.mul_assoc, Int.mul_left_comm a 2 a]; omega
  have h3 := two_sq a
  have h4 : 1 * 1 ≤ n * n := Int.mul_le_mul hn hn (by omega) (by omega)
  rw [h3]
  rw [h2] at h1
  generalize a * a = p at *
  generalize n * n = q at *
  exact Int.le_of_lt_add_one ((Int.ediv_lt_iff_lt_mul (by omega)).2 (by omega))
theorem shareI_mono {e s n : Int} (hs : 0 ≤ s) (hsn : s + 1 ≤ n) : shareI e s n ≤ shareI e (s + 1) n := by
  have hn : 1 ≤ n := by omega
  have h4 : 1 * 1 ≤ n * n := Int.mul_le_mul hn hn (by omega) (by omega)
  unfold shareI
  split
  · exact div_mono (by omega) (by omega)
  · split
    · have := sq_mono (a := s) (b := s + 1) hs (by omega)
      exact div_mono (by omega) (by omega)
    · split
      · have := sq_mono (a := n - (s + 1)) (b := n - s) (by omega) (by omega)
        have := div_mono (a := (n - (s + 1)) * (n - (s + 1)) * 1000) (b := (n - s) * (n - s) * 1000) (c := n * n) (by omega) (by omega)
        omega
      · by_cases h1 : 2 * s < n
        · rw [if_pos h1]
          by_cases h2 : 2 * (s + 1) < n
          · rw [if_pos h2]
            have := sq_mono (a := s) (b := s + 1) hs (by omega)
            rw [two_sq, two_sq]
            exact div_mono (by omega) (by omega)
          · rw [if_neg h2]
            have := half_sq (a := s) (n := n) hs (by omega) hn
            have := half_sq (a := n - (s + 1)) (n := n) (by omega) (by omega) hn
            omega
        · rw [if_neg h1, if_neg (by omega)]
          have := sq_mono (a := n - (s + 1)) (b := n - s) (by omega) (by omega)
          rw [two_sq, two_sq]
          have := div_mono (a := 2 * ((n - (s + 1)) * (n - (s + 1))) * 1000) (b := 2 * ((n - s) * (n - s)) * 1000) (c := n * n) (by omega) (by omega)
          omega
theorem shareI_end {e n : Int} (hn : 1 ≤ n) : shareI e n n = 1000 := by
  have h4 : 1 * 1 ≤ n * n := Int.mul_le_mul hn hn (by omega) (by omega)
  unfold shareI
  split
  · rw [Int.mul_comm, Int.mul_ediv_cancel _ (by omega)]
  · split
    · rw [Int.mul_comm, Int.mul_ediv_cancel _ (by omega)]
    · split
      · simp
      · rw [if_neg (by omega)]; simp
theorem betI_end (a b : Int) : betI a b 1000 = b := by
  have h : (szI (b - a) * 1000 + 500) / 1000 = szI (b - a) := by omega
  unfold betI
  rw [h]
  unfold szI
  split <;> omega
theorem betI_neg (a b s : Int) (h : 0 ≤ s) : betI (-a) (-b) s = -(betI a b s) := by
  have h1 : szI (-b - -a) = szI (b - a) := by unfold szI; omega
  have h0 := szI_nonneg (b - a)
  have hz := Int.mul_nonneg h0 h
  unfold betI
  rw [h1]
  by_cases h2 : b < a
  · rw [if_pos h2, if_neg (by omega)]; omega
  · by_cases h3 : a < b
    · rw [if_neg h2, if_pos (by omega)]; omega
    · have hab : szI (b - a) = 0 := by unfold szI; omega
      rw [if_neg h2, if_neg (by omega), hab]; simp
end Go.Proofs.Ytoccklhfiojemab
