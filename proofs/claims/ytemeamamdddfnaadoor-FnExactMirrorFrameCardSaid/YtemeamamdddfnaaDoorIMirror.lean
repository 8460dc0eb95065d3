/- impl: Frame.mirrored. -/
import Derived.Test.YtemeamamdddfnaaDoorRows
import Derived.Test.YtemeamamdddfnaaDoorRev
import Derived.Test.YtemeamamdddfnaaDoorPut
namespace Go.Proofs.YtemeamamdddfnaaDoor
open Go.RowKit
set_option linter.unusedVariables false
def mirF (f : Nat → Nat) : Nat → Nat := fun y => rev (f y) 12
set_option maxHeartbeats 400000 in
theorem mirrored_any (f : Nat → Nat) (hf : ∀ k, f k < 65536) (w : World) :
    Calls Tryd.prog 36 #[.agg (FC f)] w fun e w' => e = .returned (.agg (FC (mirF f))) ∧ Below w.heap.size w w' := by
  obtain ⟨i0, hi0⟩ : ∃ i, Tryd.prog.info? 22 = some i := ⟨_, rfl⟩
  go_enter Tryd.func36, Tryd.ntmps36
  have b1 := Blk.new w 27 f
  have b2 := Blk.new (w.alloc (.cells (FC f) 27)) 27 zeroF
  have b1' := b1.alloc (.cells (FC zeroF) 27)
  have hb := ((Below.refl w.heap.size w).alloc (Nat.le_refl _) (.cells (FC f) 27)).alloc (by simp) (.cells (FC zeroF) 27)
  rw [World.size_alloc] at b2
  clear b1
  rw [FC_zero] at b1' b2 hb
  go_wp2_with (refine wpList_load_fr rfl 27 22 _ rfl _ rfl b1' Tryd.underlying27 (by kernel_rfl) ?_)
  generalize ((w.alloc (.cells (FC f) 27)).alloc _) = w1 at *
  go_loopw [6] (fun i wr => ∃ k : Nat, k ≤ 12 ∧ i = .int .i64 k ∧ Blk wr w.heap.size 27 (fun y => if y < k then mirF f y else f y) ∧ Blk wr (w.heap.size + 1) 27 zeroF ∧ Below w.heap.size w wr) (fun i _ => 12 - (intOf i).toNat)
  case atStart => exact ⟨0, by omega, rfl, b1'.ext (by simp), b2, hb⟩
  case round =>
    obtain ⟨k, hk, rfl, h1, h2, hb⟩ := hrel
    by_cases hlt : k < 12
    · have c1 := h1.cell hlt
      rw [if_neg (Nat.lt_irrefl k)] at c1
      have f1 := h1.free k
      have ix := fun w => run_index_fr (P := Tryd.prog) w f hlt Tryd.underlying27 (by kernel_rfl) hi0 (by kernel_rfl)
      have hr := rev_shift (f k)
      have hr2 := rev_lt (f k) 16
      clear hi0
      go_wp2_with (go_at_call 42; refine (rev16_any (f k) (hf k) _).mono ?_; rintro e w2 ⟨rfl, nq, rfl⟩)
      have hq : ((rev (f k) 16 : Nat) : Int) / 16 = ((rev (f k) 12 : Nat) : Int) := by rw [← hr]; omega
      rw [hq]
      go_roundw
      case rel =>
        go_light
        refine ⟨k + 1, by omega, by go_num, ((h1.drewN nq).set hlt _).ext ?_, (h2.drewN nq).other _ (by show _ ≠ w.heap.size; omega), (below_drewN hb nq).setCell (Nat.le_refl _) _⟩
        intro j hj
        unfold upd
        by_cases e : j = k
        · subst e; simp [mirF]
        · rw [if_neg e]; simp only [show j < k + 1 ↔ j < k by omega]
      case measure => simp [intOf]; omega
    · go_wp2_with (first | (refine wpList_load_fr rfl 27 22 _ rfl _ rfl h1 Tryd.underlying27 (by kernel_rfl) ?_) | (refine wpList_store_fr rfl 27 _ _ rfl _ rfl h2 rfl (by kernel_rfl) ?_))
      refine bodyPost_ret_fr (p := 2) (ty := 27) (e := 22) rfl rfl (h2.setRow _) Tryd.underlying27 (by kernel_rfl) rfl ⟨?_, below_setRow hb (by omega) _⟩
      congr 2
      exact FC_ext (fun j hj => by rw [if_pos (by omega)])
theorem mirF_lt (f : Nat → Nat) (k : Nat) : mirF f k < 65536 := Nat.lt_trans (rev_lt (f k) 12) (by decide)
end Go.Proofs.YtemeamamdddfnaaDoor
