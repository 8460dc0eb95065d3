/- math/bits.Reverse16: the bits of a number, in the other order. -/
import Derived.Test.YtemeamamdddfnaaDoorRows
import Derived.Test.YtemeamamdddfnaaDoorFr
namespace Go.Proofs.YtemeamamdddfnaaDoor
open Go.RowKit
/-- The first k bits, in the other order. -/
def rev (n : Nat) : Nat → Nat
  | 0 => 0
  | k + 1 => 2 * rev n k + if n.testBit k then 1 else 0
theorem testBit_double (a : Nat) (b : Bool) (x : Nat) : (2 * a + if b then 1 else 0).testBit x = if x = 0 then b else a.testBit (x - 1) := by
  cases x with
  | zero =>
    simp only [Nat.testBit_zero, if_true]
    cases b <;> simp <;> omega
  | succ x =>
    rw [Nat.testBit_succ]
    have : (2 * a + if b then 1 else 0) / 2 = a := by cases b <;> simp <;> omega
    rw [this]
    simp
theorem testBit_rev (n k x : Nat) : (rev n k).testBit x = (decide (x < k) && n.testBit (k - 1 - x)) := by
  induction k generalizing x with
  | zero => simp [rev]
  | succ k ih =>
    unfold rev
    rw [testBit_double]
    by_cases h : x = 0
    · subst h; simp
    · rw [if_neg h, ih]
      congr 1
      · apply Bool.eq_iff_iff.2; simp only [decide_eq_true_eq]; omega
      · congr 1; omega
theorem rev_lt (n k : Nat) : rev n k < 2 ^ k := by
  induction k with
  | zero => simp [rev]
  | succ k ih => unfold rev; rw [Nat.pow_succ]; split <;> omega
theorem rev_halves (n : Nat) : rev (n / 256) 8 ||| rev (n % 256) 8 * 256 = rev n 16 := by
  refine Nat.eq_of_testBit_eq fun i => ?_
  rw [Nat.testBit_or, show 256 = 2 ^ 8 by rfl, Nat.testBit_mul_two_pow, testBit_rev, testBit_rev, testBit_rev, Nat.testBit_div_two_pow, Nat.testBit_mod_two_pow]
  by_cases h : i < 8
  · have h1 : ¬ 8 ≤ i := by omega
    have h2 : i < 16 := by omega
    simp [h, h1, h2, show 8 - 1 - i + 8 = 16 - 1 - i by omega]
  · have h1 : 8 ≤ i := by omega
    by_cases h2 : i < 16
    · have h3 : i - 8 < 8 := by omega
      have h4 : 8 - 1 - (i - 8) < 8 := by omega
      simp [h, h1, h2, h3, show 8 - 1 - (i - 8) = 16 - 1 - i by omega]
      omega
    · have h3 : ¬ i - 8 < 8 := by omega
      simp [h, h1, h2, h3]
theorem rev_shift (n : Nat) : rev n 16 / 2 ^ 4 = rev n 12 := by
  refine Nat.eq_of_testBit_eq fun i => ?_
  rw [Nat.testBit_div_two_pow, testBit_rev, testBit_rev]
  congr 1
  · apply Bool.eq_iff_iff.2; simp only [decide_eq_true_eq]; omega
  · congr 1; omega
set_option maxHeartbeats 400000 in
theorem rev16_any (n : Nat) (h : n < 65536) (w : World) :
    Calls Tryd.prog 42 #[.int .u16 n] w fun e w' => e = .returned (.int .u16 (rev n 16)) ∧ ∃ k, w' = w.drewN k := by
  have hA := rev_lt (n / 256) 8
  have hC := rev_lt (n % 256) 8
  have ha : bits .and .u16 (n : Int) 255 = ((n % 256 : Nat) : Int) := by
    rw [show (255 : Int) = ((255 : Nat) : Int) from rfl, u16_and_nat n 255 h (by omega), show 255 = 2 ^ 8 - 1 by rfl, Nat.and_two_pow_sub_one_eq_mod]
  have hs : IntKind.u16.wrap ((rev (n % 256) 8 : Int) * 256) = ((rev (n % 256) 8 * 256 : Nat) : Int) := by rw [IntKind.wrap_u16]; omega
  have ho : bits .or .u16 ((rev (n / 256) 8 : Nat) : Int) ((rev (n % 256) 8 : Nat) * 256 : Int) = ((rev n 16 : Nat) : Int) := by
    rw [show ((rev (n % 256) 8 : Nat) * 256 : Int) = ((rev (n % 256) 8 * 256 : Nat) : Int) by simp, u16_or_nat _ _ (by omega) (by omega), rev_halves]
  have hu : IntKind.u16.wrap ((rev (n / 256) 8 : Nat) : Int) = ((rev (n / 256) 8 : Nat) : Int) := by rw [IntKind.wrap_u16]; omega
  have hv : IntKind.u16.wrap ((rev (n % 256) 8 : Nat) : Int) = ((rev (n % 256) 8 : Nat) : Int) := by rw [IntKind.wrap_u16]; omega
  generalize hR : rev n 16 = R at *
  generalize hA' : rev (n / 256) 8 = A at *
  generalize hC' : rev (n % 256) 8 = C at *
  go_enter Tryd.func42, Tryd.ntmps42
  go_wp2
  refine wp_region_quiet_lit (by kernel_rfl) (by kernel_rfl) ?_
  repeat (first | (refine wpQuiet_index_tab rfl _ _ _ rfl rfl rfl (n := n / 256) (by omega) Tryd.underlying9 (rev · 8) 256 (by omega) (by kernel_rfl) (by simp only [hA']; omega) ?_; simp only [hA']) | (refine wpQuiet_index_tab rfl _ _ _ rfl rfl rfl (n := n % 256) (by omega) Tryd.underlying9 (rev · 8) 256 (by omega) (by kernel_rfl) (by simp only [hC']; omega) ?_; simp only [hC']) | quiet_step (fail))
  refine wpQuiet_nil ?_
  intro _ hw'
  obtain ⟨nq, hw''⟩ := hw'
  subst hw''
  go_wp2
  go_ret
  exact ⟨rfl, nq, rfl⟩
end Go.Proofs.YtemeamamdddfnaaDoor
