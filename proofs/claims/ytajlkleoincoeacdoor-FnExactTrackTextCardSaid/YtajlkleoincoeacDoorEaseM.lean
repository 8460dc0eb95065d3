/- EASES, PLAINLY: shares of ways, numbers between two. No program is named. -/
import Derived.Test.YtajlkleoincoeacDoorMath
namespace Go.Proofs.YtajlkleoincoeacDoor
/-- The share of a way behind a step. -/
def shareI (e s n : Int) : Int :=
  if e = 0 then s * 1000 / n else if e = 1 then s * s * 1000 / (n * n) else if e = 2 then 1000 - (n - s) * (n - s) * 1000 / (n * n)
  else if 2 * s < n then 2 * s * s * 1000 / (n * n) else 1000 - 2 * (n - s) * (n - s) * 1000 / (n * n)
def easC (e s n : Int) : Int := if inB e 0 3 && (inB n 1 200 && inB s 0 n) then 0 else 2
def easV (e s n : Int) : Int := if easC e s n = 0 then shareI e s n else 0
def szI (n : Int) : Int := max n (-n)
/-- The number at a share between two. -/
def betI (a b s : Int) : Int := if b < a then a - (szI (b - a) * s + 500) / 1000 else a + (szI (b - a) * s + 500) / 1000
def betC (a b s : Int) : Int := if inB a (-1000) 1000 && (inB b (-1000) 1000 && inB s 0 1000) then 0 else 2
def betV (a b s : Int) : Int := if betC a b s = 0 then betI a b s else 0
theorem easC_cases (e s n : Int) : (inB e 0 3 = false ∧ easC e s n = 2) ∨ (inB e 0 3 = true ∧ inB n 1 200 = false ∧ easC e s n = 2) ∨ (inB e 0 3 = true ∧ inB n 1 200 = true ∧ inB s 0 n = false ∧ easC e s n = 2) ∨ (inB e 0 3 = true ∧ inB n 1 200 = true ∧ inB s 0 n = true ∧ easC e s n = 0) := by
  unfold easC; cases inB e 0 3 <;> cases inB n 1 200 <;> cases inB s 0 n <;> simp
theorem betC_cases (a b s : Int) : (inB a (-1000) 1000 = false ∧ betC a b s = 2) ∨ (inB a (-1000) 1000 = true ∧ inB b (-1000) 1000 = false ∧ betC a b s = 2) ∨ (inB a (-1000) 1000 = true ∧ inB b (-1000) 1000 = true ∧ inB s 0 1000 = false ∧ betC a b s = 2) ∨ (inB a (-1000) 1000 = true ∧ inB b (-1000) 1000 = true ∧ inB s 0 1000 = true ∧ betC a b s = 0) := by
  unfold betC; cases inB a (-1000) 1000 <;> cases inB b (-1000) 1000 <;> cases inB s 0 1000 <;> simp
theorem mul_bounds {a b m n : Int} (ha : 0 ≤ a ∧ a ≤ m) (hb : 0 ≤ b ∧ b ≤ n) : 0 ≤ a * b ∧ a * b ≤ m * n :=
  ⟨Int.mul_nonneg ha.1 hb.1, Int.mul_le_mul ha.2 hb.2 hb.1 (Int.le_trans ha.1 ha.2)⟩
theorem div_bounds {x m : Int} (hx : 0 ≤ x) {y : Int} (hy : 1 ≤ y) (h : x ≤ m * y) : 0 ≤ x / y ∧ x / y ≤ m :=
  ⟨Int.ediv_nonneg hx (by omega), by
    have := Int.ediv_le_ediv (a := x) (b := m * y) (c := y) (by omega) h
    rwa [Int.mul_ediv_cancel _ (by omega)] at this⟩
/-- A square's share. -/
theorem sq_share {s n : Int} (hs : 0 ≤ s ∧ s ≤ n) (hn : 1 ≤ n) : 0 ≤ s * s * 1000 / (n * n) ∧ s * s * 1000 / (n * n) ≤ 1000 := by
  have h1 := mul_bounds hs hs
  have h2 : 1 * 1 ≤ n * n := Int.mul_le_mul hn hn (by omega) (by omega)
  exact div_bounds (by omega) (by omega) (by omega)
theorem sq_share2 {s n : Int} (hs : 0 ≤ s) (h2 : 2 * s ≤ n) (hn : 1 ≤ n) : 0 ≤ 2 * s * s * 1000 / (n * n) ∧ 2 * s * s * 1000 / (n * n) ≤ 1000 := by
  have h1 := mul_bounds (a := 2 * s) (b := s) (m := n) (n := n) ⟨by omega, h2⟩ ⟨hs, by omega⟩
  have h2 : 1 * 1 ≤ n * n := Int.mul_le_mul hn hn (by omega) (by omega)
  exact div_bounds (by omega) (by omega) (by omega)
theorem shareI_bounds {e s n : Int} (hs : 0 ≤ s ∧ s ≤ n) (hn : 1 ≤ n) : 0 ≤ shareI e s n ∧ shareI e s n ≤ 1000 := by
  unfold shareI
  split
  · exact div_bounds (by omega) hn (by omega)
  · split
    · exact sq_share hs hn
    · split
      · have := sq_share (s := n - s) (n := n) ⟨by omega, by omega⟩ hn
        omega
      · split
        · exact sq_share2 hs.1 (by omega) hn
        · have := sq_share2 (s := n - s) (n := n) (by omega) (by omega) hn
          omega
theorem szI_nonneg (n : Int) : 0 ≤ szI n := by unfold szI; omega
theorem szI_le {n m : Int} (h1 : -m ≤ n) (h2 : n ≤ m) : szI n ≤ m := by unfold szI; omega
/-- What lies between two lies between them. -/
theorem betI_bounds {a b s lo hi : Int} (ha : lo ≤ a ∧ a ≤ hi) (hb : lo ≤ b ∧ b ≤ hi) (hs : 0 ≤ s ∧ s ≤ 1000) : lo ≤ betI a b s ∧ betI a b s ≤ hi := by
  have h0 := szI_nonneg (b - a)
  have h1 := mul_bounds (a := szI (b - a)) (b := s) (m := szI (b - a)) (n := 1000) ⟨h0, Int.le_refl _⟩ hs
  have h2 := div_bounds (x := szI (b - a) * s + 500) (m := szI (b - a)) (y := 1000) (by omega) (by omega)
  have h3 : (szI (b - a) * s + 500) / 1000 ≤ szI (b - a) := by omega
  have h4 : 0 ≤ (szI (b - a) * s + 500) / 1000 := by omega
  unfold betI
  split
  · have : szI (b - a) = a - b := by unfold szI; omega
    omega
  · have : szI (b - a) = b - a := by unfold szI; omega
    omega
theorem betI_zero (a b : Int) : betI a b 0 = a := by unfold betI; simp
/-- At the step 0 nothing of the way is gone. -/
theorem shareI_zero {e n : Int} (hn : 1 ≤ n) : shareI e 0 n = 0 := by
  have h2 : 1 * 1 ≤ n * n := Int.mul_le_mul hn hn (by omega) (by omega)
  have h3 : n * n * 1000 / (n * n) = 1000 := by rw [Int.mul_comm (n * n) 1000, Int.mul_ediv_cancel _ (by omega)]
  unfold shareI
  simp [h3]
  omega
end Go.Proofs.YtajlkleoincoeacDoor
