/- The laws' own helpers: toFrame, eqFrame. -/
import Derived.Test.YtjbjbdkmomkclaaRows
import Derived.Test.YtjbjbdkmomkclaaFr
namespace Go.Proofs.Ytjbjbdkmomkclaa
set_option maxRecDepth 100000
open Go.RowKit
set_option maxHeartbeats 400000 in
theorem toFrame_any (f : Nat → Nat) (w : World) :
    Calls Try.prog 30 #[.agg (FC f)] w fun e w' => e = .returned (.agg (FC f)) ∧ Below w.heap.size w w' := by
  have hsz : ∀ (w : World) o, (w.alloc o).heap.size = w.heap.size + 1 := fun w o => World.size_alloc w o
  go_enter Try.func30, Try.ntmps30
  go_wp2
  rw [← FC_zero]
  go_loopw [4] (fun i wr => ∃ k : Nat, k ≤ 12 ∧ i = .int .i64 k ∧ Blk wr w.heap.size 40 f ∧ Blk wr (w.heap.size + 1) 41 zeroF ∧ Blk wr (w.heap.size + 1 + 1) 41 (fun j => if j < k then f j else 0) ∧ Below w.heap.size w wr) (fun i _ => 12 - (intOf i).toNat)
  case atStart =>
    have b1 := Blk.new w 40 f
    have b2 := Blk.new (w.alloc (.cells (FC f) 40)) 41 zeroF
    have b3 := Blk.new ((w.alloc (.cells (FC f) 40)).alloc (.cells (FC zeroF) 41)) 41 zeroF
    rw [hsz] at b2
    rw [hsz, hsz] at b3
    exact ⟨0, by omega, rfl, (b1.alloc _).alloc _, b2.alloc _, b3.ext (by simp [zeroF]), (((Below.refl _ _).alloc (Nat.le_refl _) _).alloc (by simp) _).alloc (by simp; omega) _⟩
  case round =>
    obtain ⟨k, hk, rfl, h1, h2, h3, hb⟩ := hrel
    by_cases hlt : k < 12
    · have c1 := h1.cell hlt
      have c3 := h3.cell hlt
      have f3 := h3.free k
      go_wp2
      go_roundw
      case rel =>
        go_light
        refine ⟨k + 1, by omega, by go_num, h1.other _ (by show w.heap.size ≠ w.heap.size + 1 + 1; omega), h2.other _ (by simp), (h3.set hlt _).ext ?_, hb.setCell (by simp; omega) _⟩
        intro j hj
        unfold upd
        by_cases e : j = k
        · subst e; simp
        · rw [if_neg e]; simp only [show j < k + 1 ↔ j < k by omega]
      case measure => simp [intOf]; omega
    · go_wp2_with (first | (refine wpList_load_fr rfl 41 39 _ rfl _ rfl h3 Try.underlying41 (by kernel_rfl) ?_) | (refine wpList_store_fr rfl 41 _ _ rfl _ rfl h2 rfl (by kernel_rfl) ?_))
      refine bodyPost_ret_fr (p := 2) (ty := 41) (e := 39) rfl rfl (h2.setRow _) Try.underlying41 (by kernel_rfl) rfl ⟨?_, ?_⟩
      · rw [FC_ext (g := f)]
        intro j hj; simp; omega
      · exact below_setRow hb (by omega) _
set_option maxHeartbeats 400000 in
theorem eqFrame_any (f g : Nat → Nat) (w : World) :
    Calls Try.prog 27 #[.agg (FC f), .agg (FC g)] w fun e w' => e = .returned (.bool (eqF f g)) ∧ Below w.heap.size w w' := by
  go_enter Try.func27, Try.ntmps27
  go_wp2
  have b1 := Blk.new w 41 f
  have b2 := Blk.new (w.alloc (.cells (FC f) 41)) 41 g
  have b1' := b1.alloc (.cells (FC g) 41)
  rw [World.size_alloc] at b2
  have hb := ((Below.refl w.heap.size w).alloc (Nat.le_refl _) (.cells (FC f) 41)).alloc (by simp) (.cells (FC g) 41)
  clear b1
  generalize ((w.alloc (.cells (FC f) 41)).alloc (.cells (FC g) 41)) = w1 at *
  go_loopw [5] (fun i wr => ∃ k : Nat, k ≤ 12 ∧ i = .int .i64 k ∧ Blk wr w.heap.size 41 f ∧ Blk wr (w.heap.size + 1) 41 g ∧ (∀ j, j < k → f j = g j) ∧ Below w.heap.size w wr) (fun i _ => 12 - (intOf i).toNat)
  case atStart => exact ⟨0, by omega, rfl, b1', b2, by omega, hb⟩
  case round =>
    obtain ⟨k, hk, rfl, h1, h2, he, hb⟩ := hrel
    have HE := Lib.hid he
    clear he
    by_cases hlt : k < 12
    · have c1 := h1.cell hlt
      have c2 := h2.cell hlt
      by_cases hfg : f k = g k
      · have hd : ((f k : Int) != (g k : Int)) = false := by simp [hfg]
        have HF := Lib.hid hfg
        clear hfg
        go_wp2
        go_quiet (fail)
        go_wp2
        go_roundw
        case rel =>
          go_light
          refine ⟨k + 1, by omega, by go_num, h1.drewN _, h2.drewN _, ?_, below_drewN hb _⟩
          intro j hj
          rcases Nat.lt_succ_iff_lt_or_eq.1 hj with h | rfl
          · exact HE.out j h
          · exact HF.out
        case measure => simp [intOf]; omega
      · have hd : ((f k : Int) != (g k : Int)) = true := by simp; omega
        have HF := Lib.hid hfg
        clear hfg
        go_wp2
        go_quiet (fail)
        go_wp2
        go_ret
        exact ⟨ret_bool (eqF_false.2 ⟨k, hlt, HF.out⟩).symm, below_drewN hb _⟩
    · go_wp2
      go_ret
      have h12 : k = 12 := by omega
      subst h12
      exact ⟨ret_bool (eqF_iff.2 HE.out).symm, hb⟩
end Go.Proofs.Ytjbjbdkmomkclaa
