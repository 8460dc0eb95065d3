/- math/bits.TrailingZeros16. -/
import Derived.Test.YtennmnkjdchbhacDoorRows
import Derived.Test.YtennmnkjdchbhacDoorFr
import Derived.Test.YtennmnkjdchbhacDoorTab
import Derived.Test.YtennmnkjdchbhacDoorTzM
namespace Go.Proofs.YtennmnkjdchbhacDoor
set_option maxRecDepth 100000
open Go.RowKit
set_option linter.unusedVariables false
def DBC : Array Value := (DBz.map fun z => Value.int .u8 z).toArray
theorem u16_neg_nat {n : Nat} (h : n < 65536) (h0 : n ≠ 0) : IntKind.u16.wrap (-(n : Int)) = ((65536 - n : Nat) : Int) := by rw [IntKind.wrap_u16]; omega
/-- Where the table is read. -/
def dbAt (t : Nat) : Nat := 2 ^ t * 125613361 % 4294967296 / 134217728
theorem db_ok {t : Nat} (h : t < 16) : dbAt t < 32 ∧ DBC[dbAt t]? = some (.int .u8 (t : Int)) ∧ ((2 ^ t : Nat) : Int) % 4294967296 * 125613361 % 4294967296 / 134217728 = ((dbAt t : Nat) : Int) := by
  have : t = 0 ∨ t = 1 ∨ t = 2 ∨ t = 3 ∨ t = 4 ∨ t = 5 ∨ t = 6 ∨ t = 7 ∨ t = 8 ∨ t = 9 ∨ t = 10 ∨ t = 11 ∨ t = 12 ∨ t = 13 ∨ t = 14 ∨ t = 15 := by omega
  rcases this with rfl | rfl | rfl | rfl | rfl | rfl | rfl | rfl | rfl | rfl | rfl | rfl | rfl | rfl | rfl | rfl <;> exact ⟨by decide, rfl, by decide +kernel⟩
theorem tz16_core (n k t : Nat) (w : World) (hx0 : ((n : Int) == 0) = false)
    (key : bits .and .u16 (n : Int) (IntKind.u16.wrap (-(n : Int))) % 4294967296 * 125613361 % 4294967296 / 134217728 = (k : Int)) (hi : k < 32) (ht : t < 32) (hc : w.cell? ⟨0, k, none⟩ = some (.int .u8 t)) :
    Calls Tryd.prog 53 #[.int .u16 n] w fun e w' => e = .returned (.int .i64 t) ∧ w = w' := by
  go_enter Tryd.func53, Tryd.ntmps53
  go_wp2_with (simp only [key])
  go_ret
  exact ⟨rfl, rfl⟩
theorem tz16_any (n t : Nat) (h : n < 65536) (ht : LowBit n t) (w : World) (hT : Tab w 0 DBC) :
    Calls Tryd.prog 53 #[.int .u16 n] w fun e w' => e = .returned (.int .i64 t) ∧ w = w' := by
  have h16 : t < 16 := lowBit_lt (m := 16) ht (by omega)
  have h0 : n ≠ 0 := by rintro rfl; simp [LowBit] at ht
  have e2 : bits .and .u16 (n : Int) ((65536 - n : Nat) : Int) = ((2 ^ t : Nat) : Int) := by rw [u16_and_nat n (65536 - n) h (by omega), lowBit_and_neg ht h]
  have hd := db_ok h16
  refine tz16_core n (dbAt t) t w (by simp; omega) ?_ hd.1 (by omega) ((Tab.cell hT (dbAt t)).trans hd.2.1)
  rw [u16_neg_nat h h0, e2]
  exact hd.2.2
end Go.Proofs.YtennmnkjdchbhacDoor
