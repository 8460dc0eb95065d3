/- spec: InvertFrame. -/
import Derived.Test.YthkpefdjhdemeaaDoorRows
import Derived.Test.YthkpefdjhdemeaaDoorS1
namespace Go.Proofs.YthkpefdjhdemeaaDoor
set_option maxRecDepth 100000
open Go.RowKit
set_option linter.unusedVariables false
theorem sub_inv {a : Nat} (h : a ≤ 4095) : 4095 - a = a ^^^ 4095 := by
  refine Nat.eq_of_testBit_eq fun i => ?_
  rw [show 4095 - a = 2 ^ 12 - (a + 1) by omega, show (4095 : Nat) = 2 ^ 12 - 1 by rfl, Nat.testBit_two_pow_sub_succ (by omega), Nat.testBit_xor, Nat.testBit_two_pow_sub_one]
  by_cases h : i < 12
  · simp [h]
  · have : a.testBit i = false := Nat.testBit_lt_two_pow (Nat.lt_of_lt_of_le (show a < 2 ^ 12 by omega) (Nat.pow_le_pow_right (by decide) (by omega)))
    simp [h, this]
theorem okC_cases (f : Nat → Nat) : (okF f = false ∧ okC f = 1) ∨ (okF f = true ∧ okC f = 0) := by
  unfold okC
  cases okF f <;> simp
set_option maxHeartbeats 1000000 in
theorem specInvertFrame_any (f : Nat → Nat) (hf : ∀ k, f k < 65536) (w : World) :
    Calls Tryd.prog 44 #[.agg (FC f)] w fun e' w' => e' = .returned (.tuple #[.agg (FC (ifC (okC f) (invF f))), .int .i64 (okC f)]) ∧ Below w.heap.size w w' := by
  have b1 := (Blk.new w 27 f).alloc (.cells (FC zeroF) 27)
  have b2 := Blk.new (w.alloc (.cells (FC f) 27)) 27 zeroF
  rw [World.size_alloc] at b2
  have h0 := ((Below.refl w.heap.size w).alloc (Nat.le_refl _) (.cells (FC f) 27)).alloc (by simp) (.cells (FC zeroF) 27)
  rw [FC_zero] at b1 b2 h0
  rcases okC_cases f with ⟨ho, ha⟩ | ⟨ho, ha⟩
  · have hv : ifC 1 (invF f) = zeroF := by simp [ifC]
    go_enter Tryd.func44, Tryd.ntmps44
    go_wp2_with fail
    generalize ((w.alloc _).alloc _) = w1 at *
    refine (ok_any _ f _ b1).mono ?_
    rintro e' w' ⟨rfl, rfl⟩
    go_wp2_with (refine wpList_store_fr (f := zeroF) rfl 27 _ _ rfl _ rfl b2 rfl (by kernel_rfl) ?_)
    exact bodyPost_ret_fr2 (p := 2) (u := 3) (ty := 27) (e := 22) rfl rfl (b2.setRow _) Tryd.underlying27 (by kernel_rfl) rfl ⟨by rw [ha, hv]; rfl, below_setRow h0 (by omega) _⟩
  · have hv : ifC 0 (invF f) = invF f := by simp [ifC]
    have hle := okF_iff.1 ho
    go_enter Tryd.func44, Tryd.ntmps44
    go_wp2_with fail
    generalize ((w.alloc _).alloc _) = w1 at *
    refine (ok_any _ f _ b1).mono ?_
    rintro e' w' ⟨rfl, rfl⟩
    go_wp2_with fail
    go_loopw [4] (fun i wr => ∃ k : Nat, k ≤ 12 ∧ i = .int .i64 k ∧ Blk wr w.heap.size 27 (fun y => if y < k then invF f y else f y) ∧ Blk wr (w.heap.size + 1) 27 zeroF ∧ Below w.heap.size w wr) (fun i _ => 12 - (intOf i).toNat)
    case atStart => exact ⟨0, by omega, rfl, b1.ext (by simp), b2, h0⟩
    case round =>
      obtain ⟨k, hk, rfl, h1, h2, hb⟩ := hrel
      by_cases hlt : k < 12
      · have c1 := h1.cell hlt
        rw [if_neg (Nat.lt_irrefl k)] at c1
        have f1 := h1.free k
        have hle' := hle k hlt
        have hop : IntKind.u16.wrap (4095 - (f k : Int)) = ((f k ^^^ 4095 : Nat) : Int) := by
          rw [← sub_inv hle', IntKind.wrap_u16]; omega
        go_wp2
        go_roundw
        case rel =>
          go_light
          refine ⟨k + 1, by omega, by go_num, (h1.set hlt _).ext ?_, h2.other _ (by show _ ≠ w.heap.size; omega), hb.setCell (Nat.le_refl _) _⟩
          intro j hj
          unfold upd
          by_cases e : j = k
          · subst e; simp [invF]
          · rw [if_neg e]; simp only [show j < k + 1 ↔ j < k by omega]
        case measure => simp [intOf]; omega
      · go_wp2_with (first | (refine wpList_load_fr rfl 27 22 _ rfl _ rfl h1 Tryd.underlying27 (by kernel_rfl) ?_) | (refine wpList_store_fr rfl 27 _ _ rfl _ rfl h2 rfl (by kernel_rfl) ?_))
        refine bodyPost_ret_fr2 (p := 2) (u := 3) (ty := 27) (e := 22) rfl rfl (h2.setRow _) Tryd.underlying27 (by kernel_rfl) rfl ⟨?_, below_setRow hb (by omega) _⟩
        have he : FC (fun y => if y < k then invF f y else f y) = FC (invF f) := FC_ext (fun j hj => by rw [if_pos (by omega)])
        rw [ha, hv, ← he]
        rfl
end Go.Proofs.YthkpefdjhdemeaaDoor
