/- HOW MANY DOTS, PLAINLY. No program is named. -/
import Derived.Test.YtjbjbdkmomkclaaMath
namespace Go.Proofs.Ytjbjbdkmomkclaa
/-- How many bits are set among the first m. -/
def popTo (n : Nat) : Nat → Nat
  | 0 => 0
  | m + 1 => popTo n m + if n.testBit m then 1 else 0
def pop (n : Nat) : Nat := popTo n 16
theorem popTo_le (n m : Nat) : popTo n m ≤ m := by
  induction m with
  | zero => simp [popTo]
  | succ m ih => unfold popTo; split <;> omega
theorem pop8 : ∀ n : Fin 256, pop n.val ≤ 8 := by decide +kernel
theorem popTo_congr {a b m : Nat} (h : ∀ i, i < m → a.testBit i = b.testBit i) : popTo a m = popTo b m := by
  induction m with
  | zero => rfl
  | succ m ih => unfold popTo; rw [ih (fun i hi => h i (by omega)), h m (by omega)]
theorem popTo_shift (n s m : Nat) : popTo n (s + m) = popTo n s + popTo (n / 2 ^ s) m := by
  induction m with
  | zero => simp [popTo]
  | succ m ih =>
    rw [← Nat.add_assoc]
    have h2 : (n / 2 ^ s).testBit m = n.testBit (s + m) := by rw [Nat.testBit_div_two_pow, Nat.add_comm]
    show popTo n (s + m) + (if n.testBit (s + m) then 1 else 0) = popTo n s + (popTo (n / 2 ^ s) m + if (n / 2 ^ s).testBit m then 1 else 0)
    rw [ih, h2]
    omega
theorem popTo_high {n s : Nat} (h : n < 2 ^ s) (m : Nat) : popTo n (s + m) = popTo n s := by
  rw [popTo_shift, Nat.div_eq_of_lt h]
  have : popTo 0 m = 0 := by
    induction m with
    | zero => rfl
    | succ m ih => unfold popTo; rw [ih]; simp
  omega
theorem pop_split {n : Nat} (h : n < 65536) : pop n = pop (n / 256) + pop (n % 256) := by
  unfold pop
  have h1 : popTo n 16 = popTo n 8 + popTo (n / 2 ^ 8) 8 := popTo_shift n 8 8
  have h2 : popTo (n / 256) 16 = popTo (n / 256) 8 := popTo_high (s := 8) (show n / 256 < 2 ^ 8 by omega) 8
  have h3 : popTo (n % 256) 16 = popTo (n % 256) 8 := popTo_high (s := 8) (show n % 256 < 2 ^ 8 by omega) 8
  have h4 : popTo (n % 256) 8 = popTo n 8 := popTo_congr (fun i hi => by
    rw [show 256 = 2 ^ 8 by rfl, Nat.testBit_mod_two_pow]; simp [hi])
  rw [h1, h2, h3, h4]
  show _ + popTo (n / 256) 8 = _
  omega
def popSum (f : Nat → Nat) : Nat → Nat
  | 0 => 0
  | y + 1 => popSum f y + pop (f y)
theorem popSum_le (f : Nat → Nat) (k : Nat) : popSum f k ≤ 16 * k := by
  induction k with
  | zero => simp [popSum]
  | succ k ih => have := popTo_le (f k) 16; unfold popSum pop; omega
theorem dotsTo_row (f : Nat → Nat) (y : Nat) : ∀ m, m ≤ 12 → (dotsTo f (12 * y + m)).length = (dotsTo f (12 * y)).length + popTo (f y) m
  | 0, _ => by simp [popTo]
  | m + 1, h => by
    rw [dotsTo_step f (by omega), List.length_append, dotsTo_row f y m (by omega)]
    show _ = _ + (popTo (f y) m + if (f y).testBit m then 1 else 0)
    split <;> simp <;> omega
theorem length_dotsTo (f : Nat → Nat) (h : okF f = true) : ∀ y, y ≤ 12 → (dotsTo f (12 * y)).length = popSum f y
  | 0, _ => rfl
  | y + 1, hy => by
    have h1 := okF_iff.1 h y (by omega)
    have h2 : pop (f y) = popTo (f y) 12 := popTo_high (s := 12) (show f y < 2 ^ 12 by omega) 4
    rw [show 12 * (y + 1) = 12 * y + 12 by omega, dotsTo_row f y 12 (by omega), length_dotsTo f h y (by omega)]
    show popSum f y + popTo (f y) 12 = popSum f y + pop (f y)
    rw [h2]
theorem length_dots (f : Nat → Nat) (h : okF f = true) : (dots f).length = popSum f 12 := length_dotsTo f h 12 (by omega)
end Go.Proofs.Ytjbjbdkmomkclaa
