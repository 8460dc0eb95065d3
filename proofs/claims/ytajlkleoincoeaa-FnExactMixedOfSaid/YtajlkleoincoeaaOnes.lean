/- math/bits.OnesCount16. -/
import Derived.Test.YtajlkleoincoeaaRows
import Derived.Test.YtajlkleoincoeaaFr
import Derived.Test.YtajlkleoincoeaaPop
namespace Go.Proofs.Ytajlkleoincoeaa
set_option maxRecDepth 100000
open Go.RowKit
set_option maxHeartbeats 400000 in
theorem ones16_any (n : Nat) (h : n < 65536) (w : World) :
    Calls Try.prog 185 #[.int .u16 n] w fun e w' => e = .returned (.int .i64 (pop n)) ∧ ∃ k, w' = w.drewN k := by
  have hA := pop8 ⟨n / 256, by omega⟩
  have hC := pop8 ⟨n % 256, by omega⟩
  simp only at hA hC
  have ha : bits .and .u16 (n : Int) 255 = ((n % 256 : Nat) : Int) := by
    rw [show (255 : Int) = ((255 : Nat) : Int) from rfl, u16_and_nat n 255 h (by omega), show 255 = 2 ^ 8 - 1 by rfl, Nat.and_two_pow_sub_one_eq_mod]
  have hw : IntKind.u8.wrap ((pop (n / 256) : Int) + (pop (n % 256) : Int)) = ((pop n : Nat) : Int) := by
    rw [pop_split h, IntKind.wrap_u8]; omega
  have hn : pop n ≤ 16 := popTo_le n 16
  have hw64 : IntKind.i64.wrap ((pop n : Nat) : Int) = ((pop n : Nat) : Int) := by rw [IntKind.wrap_i64]; omega
  go_enter Try.func185, Try.ntmps185
  go_wp2
  refine wp_region_quiet_lit (by kernel_rfl) (by kernel_rfl) ?_
  repeat (first | (refine wpQuiet_index_tab rfl _ _ _ rfl rfl rfl (n := n / 256) (by omega) Try.underlying9 pop 256 (by omega) (by kernel_rfl) (by omega) ?_) | (refine wpQuiet_index_tab rfl _ _ _ rfl rfl rfl (n := n % 256) (by omega) Try.underlying9 pop 256 (by omega) (by kernel_rfl) (by omega) ?_) | quiet_step (fail))
  refine wpQuiet_nil ?_
  intro _ hw'
  obtain ⟨nq, hw''⟩ := hw'
  subst hw''
  go_wp2
  go_ret
  exact ⟨rfl, nq, rfl⟩
end Go.Proofs.Ytajlkleoincoeaa
