/- math/bits.OnesCount16. -/
import Derived.Test.YtemeamamdddfnabRows
import Derived.Test.YtemeamamdddfnabFr
namespace Go.Proofs.Ytemeamamdddfnab
open Go.RowKit
/-- How many bits are set among the first m. -/
def popTo (n : Nat) : Nat → Nat
  | 0 => 0
  | m + 1 => popTo n m + if n.testBit m then 1 else 0
def pop (n : Nat) : Nat := popTo n 16
theorem popTo_le (n m : Nat) : popTo n m ≤ m := by
  induction m with
  | zero => simp [popTo]
  | succ m ih => unfold popTo; split <;> omega
theorem pop8 : ∀ n : Fin 256, pop n.val ≤ 8 := by decide +kernel
theorem popTo_congr {a b m : Nat} (h : ∀ i, i < m → a.testBit i = b.testBit i) : popTo a m = popTo b m := by
  induction m with
  | zero => rfl
  | succ m ih => unfold popTo; rw [ih (fun i hi => h i (by omega)), h m (by omega)]
theorem popTo_shift (n s m : Nat) : popTo n (s + m) = popTo n s + popTo (n / 2 ^ s) m := by
  induction m with
  | zero => simp [popTo]
  | succ m ih =>
    rw [← Nat.add_assoc]
    have h2 : (n / 2 ^ s).testBit m = n.testBit (s + m) := by rw [Nat.testBit_div_two_pow, Nat.add_comm]
    show popTo n (s + m) + (if n.testBit (s + m) then 1 else 0) = popTo n s + (popTo (n / 2 ^ s) m + if (n / 2 ^ s).testBit m then 1 else 0)
    rw [ih, h2]
    omega
theorem popTo_high {n s : Nat} (h : n < 2 ^ s) (m : Nat) : popTo n (s + m) = popTo n s := by
  rw [popTo_shift, Nat.div_eq_of_lt h]
  have : popTo 0 m = 0 := by
    induction m with
    | zero => rfl
    | succ m ih => unfold popTo; rw [ih]; simp
  omega
theorem pop_split {n : Nat} (h : n < 65536) : pop n = pop (n / 256) + pop (n % 256) := by
  unfold pop
  have h1 : popTo n 16 = popTo n 8 + popTo (n / 2 ^ 8) 8 := popTo_shift n 8 8
  have h2 : popTo (n / 256) 16 = popTo (n / 256) 8 := popTo_high (s := 8) (show n / 256 < 2 ^ 8 by omega) 8
  have h3 : popTo (n % 256) 16 = popTo (n % 256) 8 := popTo_high (s := 8) (show n % 256 < 2 ^ 8 by omega) 8
  have h4 : popTo (n % 256) 8 = popTo n 8 := popTo_congr (fun i hi => by
    rw [show 256 = 2 ^ 8 by rfl, Nat.testBit_mod_two_pow]; simp [hi])
  rw [h1, h2, h3, h4]
  show _ + popTo (n / 256) 8 = _
  omega
set_option maxHeartbeats 400000 in
theorem ones16_any (n : Nat) (h : n < 65536) (w : World) :
    Calls Try.prog 46 #[.int .u16 n] w fun e w' => e = .returned (.int .i64 (pop n)) ∧ ∃ k, w' = w.drewN k := by
  have hA := pop8 ⟨n / 256, by omega⟩
  have hC := pop8 ⟨n % 256, by omega⟩
  simp only at hA hC
  have ha : bits .and .u16 (n : Int) 255 = ((n % 256 : Nat) : Int) := by
    rw [show (255 : Int) = ((255 : Nat) : Int) from rfl, u16_and_nat n 255 h (by omega), show 255 = 2 ^ 8 - 1 by rfl, Nat.and_two_pow_sub_one_eq_mod]
  have hw : IntKind.u8.wrap ((pop (n / 256) : Int) + (pop (n % 256) : Int)) = ((pop n : Nat) : Int) := by
    rw [pop_split h, IntKind.wrap_u8]; omega
  have hn : pop n ≤ 16 := popTo_le n 16
  have hw64 : IntKind.i64.wrap ((pop n : Nat) : Int) = ((pop n : Nat) : Int) := by rw [IntKind.wrap_i64]; omega
  go_enter Try.func46, Try.ntmps46
  go_wp2
  refine wp_region_quiet_lit (by kernel_rfl) (by kernel_rfl) ?_
  repeat (first | (refine wpQuiet_index_tab rfl _ _ _ rfl rfl rfl (n := n / 256) (by omega) Try.underlying9 pop 256 (by omega) (by kernel_rfl) (by omega) ?_) | (refine wpQuiet_index_tab rfl _ _ _ rfl rfl rfl (n := n % 256) (by omega) Try.underlying9 pop 256 (by omega) (by kernel_rfl) (by omega) ?_) | quiet_step (fail))
  refine wpQuiet_nil ?_
  intro _ hw'
  obtain ⟨nq, hw''⟩ := hw'
  subst hw''
  go_wp2
  go_ret
  exact ⟨rfl, nq, rfl⟩
end Go.Proofs.Ytemeamamdddfnab
