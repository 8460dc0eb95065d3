/- CodeName, of spec and of impl. -/
import Derived.Test.YtemeamamdddfnaaRows
import Derived.Test.YtemeamamdddfnaaS1
namespace Go.Proofs.Ytemeamamdddfnaa
open Go.RowKit
def nameOf (c : Int) : ByteArray :=
  if c = 0 then ⟨#[111, 107]⟩ else if c = 1 then ⟨#[105, 110, 118, 97, 108, 105, 100]⟩ else if c = 2 then ⟨#[114, 97, 110, 103, 101]⟩ else if c = 3 then ⟨#[108, 105, 109, 105, 116]⟩
  else if c = 4 then ⟨#[115, 116, 97, 116, 101]⟩ else if c = 5 then ⟨#[115, 121, 110, 116, 97, 120]⟩ else if c = 6 then ⟨#[110, 111, 116, 102, 111, 117, 110, 100]⟩ else if c = 7 then ⟨#[98, 117, 100, 103, 101, 116]⟩
  else if c = 8 then ⟨#[112, 114, 111, 111, 102]⟩ else ⟨#[]⟩
theorem nameOf_out {c : Int} (h : c < 0 ∨ 8 < c) : nameOf c = ⟨#[]⟩ := by
  unfold nameOf
  rw [if_neg (by omega), if_neg (by omega), if_neg (by omega), if_neg (by omega), if_neg (by omega), if_neg (by omega), if_neg (by omega), if_neg (by omega), if_neg (by omega)]
theorem ret_string {a b : ByteArray} (h : a = b) : Ending.returned (.string a) = .returned (.string b) := by rw [h]
set_option maxHeartbeats 1000000 in
theorem specCodeName_any (c : Int) (w : World) :
    Calls Try.prog 11 #[.int .i64 c] w fun e w' => e = .returned (.string (nameOf c)) ∧ Below w.heap.size w w' := by
  by_cases h : 0 ≤ c ∧ c ≤ 8
  · have hc : c = 0 ∨ c = 1 ∨ c = 2 ∨ c = 3 ∨ c = 4 ∨ c = 5 ∨ c = 6 ∨ c = 7 ∨ c = 8 := by omega
    clear h
    rcases hc with rfl | rfl | rfl | rfl | rfl | rfl | rfl | rfl | rfl
    all_goals
      go_enter Try.func11, Try.ntmps11
      go_wp2
      go_ret
      exact ⟨rfl, (Below.refl _ _).alloc (Nat.le_refl _) _⟩
  · have hb : inB c 0 8 = false := inB_false.2 (by omega)
    have HN := Lib.hid (nameOf_out (c := c) (by omega))
    go_enter Try.func11, Try.ntmps11
    go_wp2_with (go_at_call 32; refine (in_any _ _ _ _).mono ?_; rintro e w' ⟨rfl, rfl⟩)
    go_ret
    exact ⟨ret_string HN.out.symm, (Below.refl _ _).alloc (Nat.le_refl _) _⟩
set_option maxHeartbeats 1000000 in
theorem implCodeName_any (c : Int) (w : World) :
    Calls Try.prog 12 #[.int .i64 c] w fun e w' => e = .returned (.string (nameOf c)) ∧ Below w.heap.size w w' := by
  by_cases h0 : c < 0
  · have HN := Lib.hid (nameOf_out (c := c) (by omega))
    go_enter Try.func12, Try.ntmps12
    go_wp2
    go_ret
    exact ⟨ret_string HN.out.symm, (Below.refl _ _).alloc (Nat.le_refl _) _⟩
  · by_cases h9 : 9 ≤ c
    · have HN := Lib.hid (nameOf_out (c := c) (by omega))
      go_enter Try.func12, Try.ntmps12
      go_wp2
      go_ret
      exact ⟨ret_string HN.out.symm, (Below.refl _ _).alloc (Nat.le_refl _) _⟩
    · have hc : c = 0 ∨ c = 1 ∨ c = 2 ∨ c = 3 ∨ c = 4 ∨ c = 5 ∨ c = 6 ∨ c = 7 ∨ c = 8 := by omega
      clear h0 h9
      rcases hc with rfl | rfl | rfl | rfl | rfl | rfl | rfl | rfl | rfl
      all_goals
        go_enter Try.func12, Try.ntmps12
        go_wp2
        go_ret
        exact ⟨rfl, (Below.refl _ _).alloc (Nat.le_refl _) _⟩
end Go.Proofs.Ytemeamamdddfnaa
