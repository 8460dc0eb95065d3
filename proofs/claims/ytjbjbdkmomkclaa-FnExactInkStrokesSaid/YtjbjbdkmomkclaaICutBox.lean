/- impl: CutBox. -/
import Derived.Test.YtjbjbdkmomkclaaRows
import Derived.Test.YtjbjbdkmomkclaaIValid
import Derived.Test.YtjbjbdkmomkclaaIMeet
import Derived.Test.YtjbjbdkmomkclaaBox
namespace Go.Proofs.Ytjbjbdkmomkclaa
set_option maxRecDepth 100000
open Go.RowKit
set_option linter.unusedVariables false
def cutC (f : Nat → Nat) (x y a b : Int) : Int := if okF f then (if boxB x y a b then 0 else 2) else 1
def cutI (f : Nat → Nat) (x y a b : Int) : Nat → Nat := meetF f (boxF x.toNat y.toNat a.toNat b.toNat)
set_option maxHeartbeats 1000000 in
theorem inFrame_any (x y a b : Int) (hx : i8B x) (hy : i8B y) (ha : i8B a) (hb : i8B b) (w : World) :
    Calls Try.prog 71 #[.agg (BX x y a b)] w fun e' w' => e' = .returned (.bool (boxB x y a b)) ∧ Below w.heap.size w w' := by
  have h0 := (Below.refl w.heap.size w).alloc (Nat.le_refl _) (.cells (BX x y a b) 61)
  unfold BX at *
  have c1 := fun w => isSpan_any x a hx ha w
  have c2 := fun w => isSpan_any y b hy hb w
  unfold boxB
  cases h1 : spanB x a <;> rw [h1] at c1 <;> cases h2 : spanB y b <;> rw [h2] at c2 <;> clear h1 h2
  all_goals
    go_enter Try.func71, Try.ntmps71
    go_wp2_with (go_at_call 90; first | (refine (c1 _).mono ?_; rintro e' w' ⟨rfl, rfl⟩; clear c1) | (refine (c2 _).mono ?_; rintro e' w' ⟨rfl, rfl⟩; clear c2))
    go_ret
    exact ⟨rfl, h0⟩
set_option maxHeartbeats 1000000 in
theorem implCutBox_any (f : Nat → Nat) (x y a b : Int) (hf : ∀ k, f k < 65536) (hx : i8B x) (hy : i8B y) (ha : i8B a) (hb : i8B b) (w : World) :
    Calls Try.prog 39 #[.agg (FC f), .agg (BX x y a b)] w fun e' w' => e' = .returned (.tuple #[.agg (FC (ifC (cutC f x y a b) (cutI f x y a b))), .int .i64 (cutC f x y a b)]) ∧ Below w.heap.size w w' := by
  have b1 := ((Blk.new w 41 f).alloc (.cells (BX x y a b) 61)).alloc (.cells (FC zeroF) 41)
  have r1 := (Row.new (w.alloc (.cells (FC f) 41)) 61 (BX x y a b)).alloc (.cells (FC zeroF) 41)
  have b2 := Blk.new ((w.alloc (.cells (FC f) 41)).alloc (.cells (BX x y a b) 61)) 41 zeroF
  rw [World.size_alloc] at r1
  rw [World.size_alloc, World.size_alloc] at b2
  have h0 := (((Below.refl w.heap.size w).alloc (Nat.le_refl _) (.cells (FC f) 41)).alloc (by simp) (.cells (BX x y a b) 61)).alloc (by simp; omega) (.cells (FC zeroF) 41)
  rw [FC_zero] at b1 r1 b2 h0
  cases ho : okF f with
  | false =>
    have hc : cutC f x y a b = 1 := by simp [cutC, ho]
    have hv : ifC 1 (cutI f x y a b) = zeroF := by simp [ifC]
    go_enter Try.func39, Try.ntmps39
    go_wp2_with (first | (refine wpList_load_fr rfl 41 39 _ rfl _ rfl b1 Try.underlying41 (by kernel_rfl) ?_) | (go_at_call 63; refine (valid_any f hf _).mono ?_; rintro e' w1 ⟨rfl, hb1⟩; replace b1 := b1.below hb1 b1.lt; replace r1 := Row.below r1 hb1 (Row.lt r1); replace b2 := b2.below hb1 b2.lt; replace h0 := grown_below h0 hb1 h0.size; clear hb1) | (refine wpList_store_fr (f := zeroF) rfl 41 _ _ rfl _ rfl b2 rfl (by kernel_rfl) ?_))
    exact bodyPost_ret_fr2 (p := 4) (u := 5) (ty := 41) (e := 39) rfl rfl (b2.setRow _) Try.underlying41 (by kernel_rfl) rfl ⟨by rw [hc, hv]; rfl, below_setRow h0 (by omega) _⟩
  | true =>
    have cB := fun w => inFrame_any x y a b hx hy ha hb w
    cases h1 : boxB x y a b with
    | false =>
      have hc : cutC f x y a b = 2 := by simp [cutC, ho, h1]
      rw [h1] at cB
      clear h1
      have hv : ifC 2 (cutI f x y a b) = zeroF := by simp [ifC]
      go_enter Try.func39, Try.ntmps39
      go_wp2_with (first | (refine wpList_load_fr rfl 41 39 _ rfl _ rfl b1 Try.underlying41 (by kernel_rfl) ?_) | (go_at_call 63; refine (valid_any f hf _).mono ?_; rintro e' w1 ⟨rfl, hb1⟩; replace b1 := b1.below hb1 b1.lt; replace r1 := Row.below r1 hb1 (Row.lt r1); replace b2 := b2.below hb1 b2.lt; replace h0 := grown_below h0 hb1 h0.size; clear hb1) | (refine wpList_load_row rfl 61 _ rfl _ rfl _ _ (0, 0) _ r1 Try.underlying61 rfl (by kernel_rfl) ?_) | (go_at_call 71; refine (cB _).mono ?_; rintro e' w1 ⟨rfl, hb1⟩; replace b1 := b1.below hb1 b1.lt; replace r1 := Row.below r1 hb1 (Row.lt r1); replace b2 := b2.below hb1 b2.lt; replace h0 := grown_below h0 hb1 h0.size; clear hb1 cB) | (refine wpList_store_fr (f := zeroF) rfl 41 _ _ rfl _ rfl b2 rfl (by kernel_rfl) ?_))
      exact bodyPost_ret_fr2 (p := 4) (u := 5) (ty := 41) (e := 39) rfl rfl (b2.setRow _) Try.underlying41 (by kernel_rfl) rfl ⟨by rw [hc, hv]; rfl, below_setRow h0 (by omega) _⟩
    | true =>
      have hc : cutC f x y a b = 0 := by simp [cutC, ho, h1]
      have hv : ifC 0 (cutI f x y a b) = cutI f x y a b := by simp [ifC]
      rw [h1] at cB
      have h12 := h1
      unfold boxB at h12
      rw [Bool.and_eq_true] at h12
      have s1 := spanB_iff.1 h12.1
      have s2 := spanB_iff.1 h12.2
      clear h12
      obtain ⟨X, rfl⟩ := Int.eq_ofNat_of_zero_le s1.1
      obtain ⟨Y, rfl⟩ := Int.eq_ofNat_of_zero_le s2.1
      obtain ⟨A, rfl⟩ := Int.eq_ofNat_of_zero_le (show 0 ≤ a by omega)
      obtain ⟨B, rfl⟩ := Int.eq_ofNat_of_zero_le (show 0 ≤ b by omega)
      have hcI : cutI f X Y A B = meetF f (boxF X Y A B) := rfl
      have hfl : ∀ k, boxF X Y A B k < 65536 := by
        intro k
        have := fill_lt (x := X) (a := A) (by omega)
        unfold boxF
        split <;> omega
      have cF := fun w => filled_any X Y A B (by omega) (by omega) w
      have cM := fun w => meet_any f (boxF X Y A B) hf hfl w
      clear h1 hfl
      go_enter Try.func39, Try.ntmps39
      go_wp2_with (first | (refine wpList_load_fr rfl 41 39 _ rfl _ rfl b1 Try.underlying41 (by kernel_rfl) ?_) | (go_at_call 63; refine (valid_any f hf _).mono ?_; rintro e' w1 ⟨rfl, hb1⟩; replace b1 := b1.below hb1 b1.lt; replace r1 := Row.below r1 hb1 (Row.lt r1); replace b2 := b2.below hb1 b2.lt; replace h0 := grown_below h0 hb1 h0.size; clear hb1) | (refine wpList_load_row rfl 61 _ rfl _ rfl _ _ (0, 0) _ r1 Try.underlying61 rfl (by kernel_rfl) ?_) | (go_at_call 71; refine (cB _).mono ?_; rintro e' w1 ⟨rfl, hb1⟩; replace b1 := b1.below hb1 b1.lt; replace r1 := Row.below r1 hb1 (Row.lt r1); replace b2 := b2.below hb1 b2.lt; replace h0 := grown_below h0 hb1 h0.size; clear hb1 cB))
      refine wp_region_tail 4 (by kernel_rfl) (by kernel_rfl) ?_
      simp only [List.take_succ_cons, List.take_zero, List.drop_succ_cons, List.drop_zero]
      repeat (first | (refine wpQuiet_load_fr rfl 41 39 _ rfl _ rfl b1 Try.underlying41 (by kernel_rfl) ?_) | (refine wpQuiet_load_row rfl 61 _ rfl _ rfl r1 Try.underlying61 rfl (by kernel_rfl) ?_) | quiet_step (first | exact Calls.regrown_of (cF _) | exact Calls.regrown_of (cM _)))
      refine wpQuiet_nil ?_
      intro w3 hb1
      replace b2 := b2.below hb1 b2.lt
      replace h0 := grown_below h0 hb1 h0.size
      clear hb1
      go_wp2_with (refine wpList_store_fr rfl 41 _ _ rfl _ rfl b2 rfl (by kernel_rfl) ?_)
      exact bodyPost_ret_fr2 (p := 4) (u := 5) (ty := 41) (e := 39) rfl rfl (b2.setRow _) Try.underlying41 (by kernel_rfl) rfl ⟨by rw [hc, hv, hcI]; rfl, below_setRow h0 (by omega) _⟩
end Go.Proofs.Ytjbjbdkmomkclaa
