/- spec: l01Differ. -/
import Derived.Test.YtemeamamdddfnabRows
import Derived.Test.YtemeamamdddfnabS1
import Derived.Test.YtemeamamdddfnabCount
namespace Go.Proofs.Ytemeamamdddfnab
open Go.RowKit
set_option linter.unusedVariables false
set_option maxHeartbeats 1000000 in
theorem specDiffer_any (A B : Nat) (f g : Nat → Nat) (hf : ∀ k, f k < 65536) (hg : ∀ k, g k < 65536) (w : World) (hA : Blk w A 24 f) (hB : Blk w B 24 g) :
    Calls Try.prog 31 #[.pointer (some ⟨A, 0, none⟩), .pointer (some ⟨B, 0, none⟩)] w fun e' w' => e' = .returned (.int .i64 (dots (unlikeF f g)).length) ∧ Below w.heap.size w w' := by
  have hA0 := hA
  have hB0 := hB
  have b4 := Blk.new w 24 zeroF
  have h0 := (Below.refl w.heap.size w).alloc (Nat.le_refl _) (.cells (FC zeroF) 24)
  replace hA := hA.alloc (.cells (FC zeroF) 24)
  replace hB := hB.alloc (.cells (FC zeroF) 24)
  rw [FC_zero] at b4 h0 hA hB
  go_enter Try.func31, Try.ntmps31
  go_wp2
  generalize (w.alloc _) = w1 at *
  go_loopw [6] (fun i wr => ∃ k : Nat, k ≤ 12 ∧ i = .int .i64 k ∧ Blk wr (w.heap.size) 24 (fun y => if y < k then unlikeF f g y else 0) ∧ Below w.heap.size w wr) (fun i _ => 12 - (intOf i).toNat)
  case atStart => exact ⟨0, by omega, rfl, b4.ext (by simp [zeroF]), h0⟩
  case round =>
    obtain ⟨k, hk, rfl, b4, hb⟩ := hrel
    by_cases hlt : k < 12
    · have c1 := (hA0.below hb hA0.lt).cell hlt
      have c2 := (hB0.below hb hB0.lt).cell hlt
      have c4 := b4.cell hlt
      have f4 := b4.free k
      have hop := u16_xor_nat (f k) (g k) (hf k) (hg k)
      go_wp2
      go_region
      go_wp2
      go_roundw
      case rel =>
        go_light
        refine ⟨k + 1, by omega, by go_num, ((b4.set hlt _).ext ?_).drew, (hb.setCell (p := ⟨w.heap.size, k, none⟩) (by show w.heap.size ≤ w.heap.size; omega) _).drew⟩
        intro j hj
        unfold upd
        by_cases e : j = k
        · subst e; simp [unlikeF]
        · rw [if_neg e]; simp only [show j < k + 1 ↔ j < k by omega]
      case measure => simp [intOf]; omega
    · have h12 : k = 12 := by omega
      subst h12
      replace b4 := b4.ext (f' := unlikeF f g) (fun j hj => by rw [if_pos (by omega)])
      go_wp2_with (go_at_call 45; refine (l01Count_any _ _ _ (unlikeF_lt hf hg) b4).mono ?_; rintro e' w2 ⟨rfl, hb1⟩)
      go_ret
      exact ⟨rfl, grown_below hb hb1 hb.size⟩
end Go.Proofs.Ytemeamamdddfnab
