/- The laws' own helpers: toFrame, eqFrame. -/
import Derived.Test.YtjbjbdkmomkclaaDoorRows
import Derived.Test.YtjbjbdkmomkclaaDoorFr
namespace Go.Proofs.YtjbjbdkmomkclaaDoor
set_option maxRecDepth 100000
open Go.RowKit
set_option maxHeartbeats 400000 in
theorem toFrame_any (f : Nat → Nat) (w : World) :
    Calls Tryd.prog 19 #[.agg (FC f)] w fun e w' => e = .returned (.agg (FC f)) ∧ Below w.heap.size w w' := by
  have hsz : ∀ (w : World) o, (w.alloc o).heap.size = w.heap.size + 1 := fun w o => World.size_alloc w o
  go_enter Tryd.func19, Tryd.ntmps19
  go_wp2
  rw [← FC_zero]
  go_loopw [4] (fun i wr => ∃ k : Nat, k ≤ 12 ∧ i = .int .i64 k ∧ Blk wr w.heap.size 43 f ∧ Blk wr (w.heap.size + 1) 47 zeroF ∧ Blk wr (w.heap.size + 1 + 1) 47 (fun j => if j < k then f j else 0) ∧ Below w.heap.size w wr) (fun i _ => 12 - (intOf i).toNat)
  case atStart =>
    have b1 := Blk.new w 43 f
    have b2 := Blk.new (w.alloc (.cells (FC f) 43)) 47 zeroF
    have b3 := Blk.new ((w.alloc (.cells (FC f) 43)).alloc (.cells (FC zeroF) 47)) 47 zeroF
    rw [hsz] at b2
    rw [hsz, hsz] at b3
    exact ⟨0, by omega, rfl, (b1.alloc _).alloc _, b2.alloc _, b3.ext (by simp [zeroF]), (((Below.refl _ _).alloc (Nat.le_refl _) _).alloc (by simp) _).alloc (by simp; omega) _⟩
  case round =>
    obtain ⟨k, hk, rfl, h1, h2, h3, hb⟩ := hrel
    by_cases hlt : k < 12
    · have c1 := h1.cell hlt
      have c3 := h3.cell hlt
      have f3 := h3.free k
      go_wp2
      go_roundw
      case rel =>
        go_light
        refine ⟨k + 1, by omega, by go_num, h1.other _ (by show w.heap.size ≠ w.heap.size + 1 + 1; omega), h2.other _ (by simp), (h3.set hlt _).ext ?_, hb.setCell (by simp; omega) _⟩
        intro j hj
        unfold upd
        by_cases e : j = k
        · subst e; simp
        · rw [if_neg e]; simp only [show j < k + 1 ↔ j < k by omega]
      case measure => simp [intOf]; omega
    · go_wp2_with (first | (refine wpList_load_fr rfl 47 42 _ rfl _ rfl h3 Tryd.underlying47 (by kernel_rfl) ?_) | (refine wpList_store_fr rfl 47 _ _ rfl _ rfl h2 rfl (by kernel_rfl) ?_))
      refine bodyPost_ret_fr (p := 2) (ty := 47) (e := 42) rfl rfl (h2.setRow _) Tryd.underlying47 (by kernel_rfl) rfl ⟨?_, ?_⟩
      · rw [FC_ext (g := f)]
        intro j hj; simp; omega
      · exact below_setRow hb (by omega) _
end Go.Proofs.YtjbjbdkmomkclaaDoor
