/- math/bits.Len16; impl.spanOf. -/
import Derived.Test.YtennmnkjdchbhacDoorRows
import Derived.Test.YtennmnkjdchbhacDoorFr
import Derived.Test.YtennmnkjdchbhacDoorTz
import Derived.Test.YtennmnkjdchbhacDoorBoxM
namespace Go.Proofs.YtennmnkjdchbhacDoor
set_option maxRecDepth 100000
open Go.RowKit
set_option linter.unusedVariables false
theorem blen_le : ∀ (k n : Nat), blen k n ≤ k
  | 0, _ => by simp [blen]
  | k + 1, n => by unfold blen; split <;> have := blen_le k (n / 2) <;> omega
theorem len16_any (n h : Nat) (hn : n < 65536) (hh : HighBit n h) (w : World) :
    Calls Tryd.prog 80 #[.int .u16 n] w fun e w' => e = .returned (.int .i64 ((h + 1 : Nat) : Int)) ∧ w = w' := by
  by_cases hc : 256 ≤ n
  · obtain ⟨h8, hb⟩ := blen_high hh hc hn
    have hl : h < 16 := by
      rcases Nat.lt_or_ge h 16 with h' | h'
      · exact h'
      · have := (high_pow hh).1
        have : 2 ^ 16 ≤ 2 ^ h := Nat.pow_le_pow_right (by decide) h'
        omega
    have k1 : IntKind.u8.wrap ((n : Int) / 256) = ((n / 256 : Nat) : Int) := by rw [IntKind.wrap_u8]; omega
    have k2 : IntKind.i64.wrap ((blen 8 (n / 256) : Nat) : Int) = ((blen 8 (n / 256) : Nat) : Int) := by have := blen_le 8 (n / 256); rw [IntKind.wrap_i64]; omega
    have k3 : IntKind.i64.wrap (8 + ((blen 8 (n / 256) : Nat) : Int)) = ((h + 1 : Nat) : Int) := by rw [hb, IntKind.wrap_i64]; omega
    have hbl := blen_le 8 (n / 256)
    have e1 : (256 : Int) ≤ (n : Int) := by omega
    go_enter Tryd.func80, Tryd.ntmps80
    go_wp2_with (refine wpList_index_tab rfl _ _ _ rfl rfl rfl (n := n / 256) (by omega) Tryd.underlying9 (blen 8) 256 (by omega) (by kernel_rfl) (by omega) ?_)
    go_ret
    exact ⟨ret_int (by omega), rfl⟩
  · have hb := blen_low hh (by omega)
    have hl : h < 8 := by have := blen_le 8 n; omega
    have k1 : IntKind.u8.wrap (n : Int) = n := by rw [IntKind.wrap_u8]; omega
    have k2 : IntKind.i64.wrap ((blen 8 n : Nat) : Int) = ((blen 8 n : Nat) : Int) := by have := blen_le 8 n; rw [IntKind.wrap_i64]; omega
    have hbl := blen_le 8 n
    have e1 : (n : Int) < 256 := by omega
    go_enter Tryd.func80, Tryd.ntmps80
    go_wp2_with (refine wpList_index_tab rfl _ _ _ rfl rfl rfl (n := n) (by omega) Tryd.underlying9 (blen 8) 256 (by omega) (by kernel_rfl) (by omega) ?_)
    go_ret
    exact ⟨ret_int (by omega), rfl⟩
theorem span_any (n t h : Nat) (hn : n < 4096) (ht : LowBit n t) (hh : HighBit n h) (w : World) (hT : Tab w 0 DBC) :
    Calls Tryd.prog 61 #[.int .u16 n] w fun e w' => e = .returned (.tuple #[.int .i8 (t : Int), .int .i8 ((h : Int) - (t : Int) + 1)]) ∧ w = w' := by
  have t12 : t < 12 := lowBit_lt (m := 12) ht (by omega)
  have h12 : h < 12 := by
    rcases Nat.lt_or_ge h 12 with h' | h'
    · exact h'
    · have := (high_pow hh).1
      have : 2 ^ 12 ≤ 2 ^ h := Nat.pow_le_pow_right (by decide) h'
      omega
  have hth : t ≤ h := by
    rcases Nat.lt_or_ge h t with h' | h'
    · have := hh.2 t h'
      rw [ht.1] at this; cases this
    · exact h'
  have k1 : IntKind.i8.wrap (t : Int) = t := by simp [IntKind.wrap, IntKind.bits, IntKind.signed]; omega
  have k2 : IntKind.i64.wrap (((h + 1 : Nat) : Int) - (t : Int)) = (h : Int) - (t : Int) + 1 := by rw [IntKind.wrap_i64]; omega
  have k2' : IntKind.i64.wrap ((h : Int) + 1 - (t : Int)) = (h : Int) - (t : Int) + 1 := by rw [IntKind.wrap_i64]; omega
  have k3 : IntKind.i8.wrap ((h : Int) - (t : Int) + 1) = (h : Int) - (t : Int) + 1 := by
    obtain ⟨d, rfl⟩ : ∃ d, h = t + d := ⟨h - t, by omega⟩
    simp [IntKind.wrap, IntKind.bits, IntKind.signed]; omega
  have cT := tz16_any n t (by omega) ht w hT
  have cL := len16_any n h (by omega) hh w
  clear ht hh hT
  go_enter Tryd.func61, Tryd.ntmps61
  go_wp2_with (first | (go_at_call 53; refine cT.mono ?_; rintro e w' ⟨rfl, rfl⟩) | (go_at_call 80; refine cL.mono ?_; rintro e w' ⟨rfl, rfl⟩))
  go_ret2
  exact ⟨rfl, rfl⟩
end Go.Proofs.YtennmnkjdchbhacDoor
