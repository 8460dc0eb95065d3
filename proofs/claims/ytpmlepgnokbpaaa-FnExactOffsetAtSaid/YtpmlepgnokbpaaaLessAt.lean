/- spec: l01Less at whatever addresses. -/
import Derived.Test.YtpmlepgnokbpaaaRows
import Derived.Test.YtpmlepgnokbpaaaSBook
namespace Go.Proofs.Ytpmlepgnokbpaaa
set_option maxRecDepth 100000
open Go.RowKit
set_option linter.unusedVariables false
set_option maxHeartbeats 1000000 in
theorem specLessAt_any (A oA B oB : Nat) (f g : Nat → Nat) (hf : ∀ k, f k < 65536) (hg : ∀ k, g k < 65536) (w : World) (hA : w.rangeAt A oA (FC f).toList) (lA : A < w.heap.size) (hB : w.rangeAt B oB (FC g).toList) (lB : B < w.heap.size) :
    Calls Try.prog 92 #[.pointer (some ⟨A, oA, none⟩), .pointer (some ⟨B, oB, none⟩)] w fun e' w' => e' = .returned (.agg (FC (lessF f g))) ∧ Below w.heap.size w w' := by
  have b3 := (Blk.new w 27 zeroF).alloc (.cells (FC zeroF) 27)
  have b4 := Blk.new (w.alloc (.cells (FC zeroF) 27)) 27 zeroF
  rw [World.size_alloc] at b4
  have h0 := ((Below.refl w.heap.size w).alloc (Nat.le_refl _) (.cells (FC zeroF) 27)).alloc (by simp) (.cells (FC zeroF) 27)
  rw [FC_zero] at b3 b4 h0
  go_enter Try.func92, Try.ntmps92
  go_wp2
  generalize ((w.alloc _).alloc _) = w1 at *
  go_loopw [6] (fun i wr => ∃ k : Nat, k ≤ 12 ∧ i = .int .i64 k ∧ Blk wr w.heap.size 27 zeroF ∧ Blk wr (w.heap.size + 1) 27 (fun y => if y < k then lessF f g y else 0) ∧ Below w.heap.size w wr) (fun i _ => 12 - (intOf i).toNat)
  case atStart => exact ⟨0, by omega, rfl, b3, b4.ext (by simp [zeroF]), h0⟩
  case round =>
    obtain ⟨k, hk, rfl, b3, b4, hb⟩ := hrel
    by_cases hlt : k < 12
    · have c1 := fr_cell (range_below hA hb lA) hlt
      have c2 := fr_cell (range_below hB hb lB) hlt
      have c4 := b4.cell hlt
      have f4 := b4.free k
      have hop := u16_andNot_nat (f k) (g k) (hf k) (hg k)
      go_wp2
      go_region
      go_wp2
      go_roundw
      case rel =>
        go_light
        refine ⟨k + 1, by omega, by go_num, (b3.other (a := ⟨w.heap.size + 1, k, none⟩) _ (by show w.heap.size ≠ w.heap.size + 1; omega)).drew, ((b4.set hlt _).ext ?_).drew, (hb.setCell (p := ⟨w.heap.size + 1, k, none⟩) (by show w.heap.size ≤ w.heap.size + 1; omega) _).drew⟩
        intro j hj
        unfold upd
        by_cases e : j = k
        · subst e; simp [lessF]
        · rw [if_neg e]; simp only [show j < k + 1 ↔ j < k by omega]
      case measure => simp [intOf]; omega
    · have h12 : k = 12 := by omega
      subst h12
      go_wp2_with (first | (refine wpList_load_fr rfl 27 22 _ rfl _ rfl b4 Try.underlying27 (by kernel_rfl) ?_) | (refine wpList_store_fr rfl 27 _ _ rfl _ rfl b3 rfl (by kernel_rfl) ?_))
      refine bodyPost_ret_fr (p := 4) (ty := 27) (e := 22) rfl rfl (b3.setRow _) Try.underlying27 (by kernel_rfl) rfl ⟨?_, below_setRow hb (by omega) _⟩
      congr 2
      all_goals exact FC_ext (fun j hj => by rw [if_pos (by omega)])
end Go.Proofs.Ytpmlepgnokbpaaa
