/- spec: l00In, l01Ok, ValidFrame, l01Place, l01Asked, l01Has, l01Put. -/
import Derived.Test.YtkcomhbmhgnhhabRows
import Derived.Test.YtkcomhbmhgnhhabFr
import Derived.RegionTactic
namespace Go.Proofs.Ytkcomhbmhgnhhab
set_option maxRecDepth 100000
open Go.RowKit
theorem in_any (n a b : Int) (w : World) :
    Calls Try.prog 73 #[.int .i64 n, .int .i64 a, .int .i64 b] w fun e w' => e = .returned (.bool (inB n a b)) ∧ w = w' := by
  by_cases h1 : a ≤ n
  · by_cases h2 : n ≤ b
    · go_enter Try.func73, Try.ntmps73
      go_wp2
      go_ret
      exact ⟨ret_bool (by rw [inB_iff.2 ⟨h1, h2⟩]), rfl⟩
    · go_enter Try.func73, Try.ntmps73
      go_wp2
      go_ret
      exact ⟨ret_bool (by rw [inB_false.2 (by omega)]), rfl⟩
  · go_enter Try.func73, Try.ntmps73
    go_wp2
    go_ret
    exact ⟨ret_bool (by rw [inB_false.2 (by omega)]), rfl⟩
set_option maxHeartbeats 400000 in
theorem ok_any (B : Nat) (f : Nat → Nat) (w : World) (hB : Blk w B 64 f) :
    Calls Try.prog 78 #[.pointer (some ⟨B, 0, none⟩)] w fun e w' => e = .returned (.bool (okF f)) ∧ w = w' := by
  go_enter Try.func78, Try.ntmps78
  go_wp2
  go_loop [3] (fun i => ∃ k : Nat, k ≤ 12 ∧ i = .int .i64 k ∧ (∀ j, j < k → f j ≤ 4095)) (fun i => 12 - (intOf i).toNat)
  case atStart => exact ⟨0, by omega, rfl, by omega⟩
  case round =>
    obtain ⟨k, hk, rfl, he⟩ := hrel
    have HE := Lib.hid he
    clear he
    by_cases hlt : k < 12
    · have c1 := hB.cell hlt
      by_cases hf : f k ≤ 4095
      · go_wp2
        go_round
        case rel =>
          go_light
          refine ⟨k + 1, by omega, by go_num, ?_⟩
          intro j hj
          rcases Nat.lt_succ_iff_lt_or_eq.1 hj with h | rfl
          · exact HE.out j h
          · exact hf
        case measure => simp [intOf]; omega
      · go_wp2
        go_ret
        exact ⟨ret_bool (okF_false.2 ⟨k, hlt, by omega⟩).symm, rfl⟩
    · go_wp2
      go_ret
      have h12 : k = 12 := by omega
      subst h12
      exact ⟨ret_bool (okF_iff.2 HE.out).symm, rfl⟩
end Go.Proofs.Ytkcomhbmhgnhhab
