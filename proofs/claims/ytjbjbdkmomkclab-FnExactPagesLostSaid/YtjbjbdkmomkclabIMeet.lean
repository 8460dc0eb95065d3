/- impl: Frame.meet: two frames, place by place. -/
import Derived.Test.YtjbjbdkmomkclabRows
import Derived.Test.YtjbjbdkmomkclabFr
namespace Go.Proofs.Ytjbjbdkmomkclab
set_option maxRecDepth 100000
open Go.RowKit
set_option maxHeartbeats 400000 in
theorem meet_any (f g : Nat → Nat) (hf : ∀ k, f k < 65536) (hg : ∀ k, g k < 65536) (w : World) :
    Calls Try.prog 117 #[.agg (FC f), .agg (FC g)] w fun e w' => e = .returned (.agg (FC (meetF f g))) ∧ Below w.heap.size w w' := by
  obtain ⟨i0, hi0⟩ : ∃ i, Try.prog.info? 57 = some i := ⟨_, rfl⟩
  go_enter Try.func117, Try.ntmps117
  have b1 := Blk.new w 65 f
  have b2 := Blk.new (w.alloc (.cells (FC f) 65)) 65 g
  have b3 := Blk.new ((w.alloc (.cells (FC f) 65)).alloc (.cells (FC g) 65)) 65 zeroF
  have b1' := (b1.alloc (.cells (FC g) 65)).alloc (.cells (FC zeroF) 65)
  have b2' := b2.alloc (.cells (FC zeroF) 65)
  have hb := (((Below.refl w.heap.size w).alloc (Nat.le_refl _) (.cells (FC f) 65)).alloc (by simp) (.cells (FC g) 65)).alloc (by simp; omega) (.cells (FC zeroF) 65)
  rw [World.size_alloc] at b2 b2'
  rw [World.size_alloc, World.size_alloc] at b3
  clear b1 b2
  rw [FC_zero] at b1' b2' b3 hb
  go_wp2_with (refine wpList_load_fr rfl 65 57 _ rfl _ rfl b2' Try.underlying65 (by kernel_rfl) ?_)
  generalize (((w.alloc (.cells (FC f) 65)).alloc (.cells (FC g) 65)).alloc _) = w1 at *
  go_loopw [8] (fun i wr => ∃ k : Nat, k ≤ 12 ∧ i = .int .i64 k ∧ Blk wr w.heap.size 65 (fun y => if y < k then meetF f g y else f y) ∧ Blk wr (w.heap.size + 1 + 1) 65 zeroF ∧ Below w.heap.size w wr) (fun i _ => 12 - (intOf i).toNat)
  case atStart => exact ⟨0, by omega, rfl, b1'.ext (by simp), b3, hb⟩
  case round =>
    obtain ⟨k, hk, rfl, h1, h3, hb⟩ := hrel
    by_cases hlt : k < 12
    · have ix := fun w => run_index_fr (P := Try.prog) w g hlt Try.underlying65 (by kernel_rfl) hi0 (by kernel_rfl)
      have c1 := h1.cell hlt
      rw [if_neg (Nat.lt_irrefl k)] at c1
      have f1 := h1.free k
      have hop := u16_and_nat (f k) (g k) (hf k) (hg k)
      clear hi0
      go_wp2
      go_roundw
      case rel =>
        go_light
        refine ⟨k + 1, by omega, by go_num, (h1.set hlt _).ext ?_, h3.other _ (by show _ ≠ w.heap.size; omega), hb.setCell (Nat.le_refl _) _⟩
        intro j hj
        unfold upd
        by_cases e : j = k
        · subst e; simp [meetF]
        · rw [if_neg e]; simp only [show j < k + 1 ↔ j < k by omega]
      case measure => simp [intOf]; omega
    · go_wp2_with (first | (refine wpList_load_fr rfl 65 57 _ rfl _ rfl h1 Try.underlying65 (by kernel_rfl) ?_) | (refine wpList_store_fr rfl 65 _ _ rfl _ rfl h3 rfl (by kernel_rfl) ?_))
      refine bodyPost_ret_fr (p := 4) (ty := 65) (e := 57) rfl rfl (h3.setRow _) Try.underlying65 (by kernel_rfl) rfl ⟨?_, below_setRow hb (by omega) _⟩
      congr 2
      exact FC_ext (fun j hj => by rw [if_pos (by omega)])
end Go.Proofs.Ytjbjbdkmomkclab
