/- spec: MeetFrames. -/
import Derived.Test.YtemeamamdddfnabRows
import Derived.Test.YtemeamamdddfnabSBoth
namespace Go.Proofs.Ytemeamamdddfnab
open Go.RowKit
set_option linter.unusedVariables false
set_option maxHeartbeats 1000000 in
theorem specMeetFrames_any (f g : Nat → Nat) (hf : ∀ k, f k < 65536) (hg : ∀ k, g k < 65536) (w : World) :
    Calls Try.prog 13 #[.agg (FC f), .agg (FC g)] w fun e' w' => e' = .returned (.tuple #[.agg (FC (ifC (bothC f g) (meetF f g))), .int .i64 (bothC f g)]) ∧ Below w.heap.size w w' := by
  have b1 := ((Blk.new w 24 f).alloc (.cells (FC g) 24)).alloc (.cells (FC zeroF) 24)
  have b2 := (Blk.new (w.alloc (.cells (FC f) 24)) 24 g).alloc (.cells (FC zeroF) 24)
  have b3 := Blk.new ((w.alloc (.cells (FC f) 24)).alloc (.cells (FC g) 24)) 24 zeroF
  rw [World.size_alloc] at b2
  rw [World.size_alloc, World.size_alloc] at b3
  have h0 := (((Below.refl w.heap.size w).alloc (Nat.le_refl _) (.cells (FC f) 24)).alloc (by simp) (.cells (FC g) 24)).alloc (by simp; omega) (.cells (FC zeroF) 24)
  rw [FC_zero] at b1 b2 b3 h0
  rcases bothC_cases f g with ⟨ho, ha⟩ | ⟨ho, h1, ha⟩ | ⟨ho, h1, ha⟩
  · have hv : ifC 1 (meetF f g) = zeroF := by simp [ifC]
    go_enter Try.func13, Try.ntmps13
    go_wp2_with fail
    generalize (((w.alloc _).alloc _).alloc _) = w1 at *
    refine (both_any _ _ f g _ b1 b2).mono ?_
    rintro e' w' ⟨rfl, rfl⟩
    go_wp2_with (refine wpList_store_fr (f := zeroF) rfl 24 _ _ rfl _ rfl b3 rfl (by kernel_rfl) ?_)
    exact bodyPost_ret_fr2 (p := 4) (u := 5) (ty := 24) (e := 22) rfl rfl (b3.setRow _) Try.underlying24 (by kernel_rfl) rfl ⟨by rw [ha, hv]; rfl, below_setRow h0 (by omega) _⟩
  · have hv : ifC 1 (meetF f g) = zeroF := by simp [ifC]
    go_enter Try.func13, Try.ntmps13
    go_wp2_with fail
    generalize (((w.alloc _).alloc _).alloc _) = w1 at *
    refine (both_any _ _ f g _ b1 b2).mono ?_
    rintro e' w' ⟨rfl, rfl⟩
    go_wp2_with (refine wpList_store_fr (f := zeroF) rfl 24 _ _ rfl _ rfl b3 rfl (by kernel_rfl) ?_)
    exact bodyPost_ret_fr2 (p := 4) (u := 5) (ty := 24) (e := 22) rfl rfl (b3.setRow _) Try.underlying24 (by kernel_rfl) rfl ⟨by rw [ha, hv]; rfl, below_setRow h0 (by omega) _⟩
  · have hv : ifC 0 (meetF f g) = meetF f g := by simp [ifC]
    have HA := Lib.hid ha
    go_enter Try.func13, Try.ntmps13
    go_wp2_with fail
    generalize (((w.alloc _).alloc _).alloc _) = w1 at *
    refine (both_any _ _ f g _ b1 b2).mono ?_
    rintro e' w' ⟨rfl, rfl⟩
    go_wp2_with fail
    clear ha
    go_loopw [7] (fun i wr => ∃ k : Nat, k ≤ 12 ∧ i = .int .i64 k ∧ Blk wr w.heap.size 24 (fun y => if y < k then meetF f g y else f y) ∧ Blk wr (w.heap.size + 1) 24 g ∧ Blk wr (w.heap.size + 1 + 1) 24 zeroF ∧ Below w.heap.size w wr) (fun i _ => 12 - (intOf i).toNat)
    case atStart => exact ⟨0, by omega, rfl, b1.ext (by simp), b2, b3, h0⟩
    case round =>
      obtain ⟨k, hk, rfl, b1, b2, b3, hb⟩ := hrel
      by_cases hlt : k < 12
      · have c1 := b1.cell hlt
        rw [if_neg (Nat.lt_irrefl k)] at c1
        have c2 := b2.cell hlt
        have f1 := b1.free k
        have hop := u16_and_nat (f k) (g k) (hf k) (hg k)
        go_wp2
        go_region
        go_wp2
        go_roundw
        case rel =>
          go_light
          refine ⟨k + 1, by omega, by go_num, ((b1.set hlt _).ext ?_).drew, (b2.other (a := ⟨w.heap.size, k, none⟩) _ (by show w.heap.size + 1 ≠ w.heap.size; omega)).drew, (b3.other (a := ⟨w.heap.size, k, none⟩) _ (by show w.heap.size + 1 + 1 ≠ w.heap.size; omega)).drew, (hb.setCell (p := ⟨w.heap.size, k, none⟩) (Nat.le_refl _) _).drew⟩
          intro j hj
          unfold upd
          by_cases e : j = k
          · subst e; simp [meetF]
          · rw [if_neg e]; simp only [show j < k + 1 ↔ j < k by omega]
        case measure => simp [intOf]; omega
      · have h12 : k = 12 := by omega
        subst h12
        go_wp2_with (first | (refine wpList_load_fr rfl 24 22 _ rfl _ rfl b1 Try.underlying24 (by kernel_rfl) ?_) | (refine wpList_store_fr rfl 24 _ _ rfl _ rfl b3 rfl (by kernel_rfl) ?_))
        refine bodyPost_ret_fr2 (p := 4) (u := 5) (ty := 24) (e := 22) rfl rfl (b3.setRow _) Try.underlying24 (by kernel_rfl) rfl ⟨?_, below_setRow hb (by omega) _⟩
        rw [HA.out, hv, FC_ext (f := fun y => if y < 12 then meetF f g y else f y) (g := meetF f g) (fun j hj => by rw [if_pos (by omega)])]
        rfl
end Go.Proofs.Ytemeamamdddfnab
