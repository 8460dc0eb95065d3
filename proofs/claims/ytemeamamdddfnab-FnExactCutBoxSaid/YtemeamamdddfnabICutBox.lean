/- impl: CutBox. -/
import Derived.Test.YtemeamamdddfnabRows
import Derived.Test.YtemeamamdddfnabIValid
import Derived.Test.YtemeamamdddfnabIMeet
import Derived.Test.YtemeamamdddfnabBox
namespace Go.Proofs.Ytemeamamdddfnab
open Go.RowKit
set_option linter.unusedVariables false
def cutC (f : Nat → Nat) (x y a b : Int) : Int := if okF f then (if boxB x y a b then 0 else 2) else 1
def cutI (f : Nat → Nat) (x y a b : Int) : Nat → Nat := meetF f (fillF x.toNat y.toNat a.toNat b.toNat)
set_option maxHeartbeats 1000000 in
theorem implCutBox_any (f : Nat → Nat) (x y a b : Int) (hf : ∀ k, f k < 65536) (hx : i8B x) (hy : i8B y) (ha : i8B a) (hb : i8B b) (w : World) :
    Calls Try.prog 21 #[.agg (FC f), .agg (BX x y a b)] w fun e' w' => e' = .returned (.tuple #[.agg (FC (ifC (cutC f x y a b) (cutI f x y a b))), .int .i64 (cutC f x y a b)]) ∧ Below w.heap.size w w' := by
  have b1 := ((Blk.new w 24 f).alloc (.cells (BX x y a b) 36)).alloc (.cells (FC zeroF) 24)
  have r1 := (Row.new (w.alloc (.cells (FC f) 24)) 36 (BX x y a b)).alloc (.cells (FC zeroF) 24)
  have b2 := Blk.new ((w.alloc (.cells (FC f) 24)).alloc (.cells (BX x y a b) 36)) 24 zeroF
  rw [World.size_alloc] at r1
  rw [World.size_alloc, World.size_alloc] at b2
  have h0 := (((Below.refl w.heap.size w).alloc (Nat.le_refl _) (.cells (FC f) 24)).alloc (by simp) (.cells (BX x y a b) 36)).alloc (by simp; omega) (.cells (FC zeroF) 24)
  rw [FC_zero] at b1 r1 b2 h0
  cases ho : okF f with
  | false =>
    have hc : cutC f x y a b = 1 := by simp [cutC, ho]
    have hv : ifC 1 (cutI f x y a b) = zeroF := by simp [ifC]
    go_enter Try.func21, Try.ntmps21
    go_wp2_with (first | (refine wpList_load_fr rfl 24 22 _ rfl _ rfl b1 Try.underlying24 (by kernel_rfl) ?_) | (go_at_call 39; refine (valid_any f hf _).mono ?_; rintro e' w1 ⟨rfl, hb1⟩; replace b1 := b1.below hb1 b1.lt; replace r1 := Row.below r1 hb1 (Row.lt r1); replace b2 := b2.below hb1 b2.lt; replace h0 := grown_below h0 hb1 h0.size; clear hb1; have cx := Row.cell r1 0; have cy := Row.cell r1 1; have ca := Row.cell r1 2; have cb := Row.cell r1 3; simp [BX] at cx cy ca cb) | (refine wpList_store_fr (f := zeroF) rfl 24 _ _ rfl _ rfl b2 rfl (by kernel_rfl) ?_))
    exact bodyPost_ret_fr2 (p := 4) (u := 5) (ty := 24) (e := 22) rfl rfl (b2.setRow _) Try.underlying24 (by kernel_rfl) rfl ⟨by rw [hc, hv]; rfl, below_setRow h0 (by omega) _⟩
  | true =>
    cases h1 : spanB x a with
    | false =>
      have hc : cutC f x y a b = 2 := by simp [cutC, ho, boxB, h1]
      have HS1 := Lib.hid h1
      have HS2 := HS1
      clear h1
      have hv : ifC 2 (cutI f x y a b) = zeroF := by simp [ifC]
      go_enter Try.func21, Try.ntmps21
      go_wp2_with (first | (refine wpList_load_fr rfl 24 22 _ rfl _ rfl b1 Try.underlying24 (by kernel_rfl) ?_) | (go_at_call 39; refine (valid_any f hf _).mono ?_; rintro e' w1 ⟨rfl, hb1⟩; replace b1 := b1.below hb1 b1.lt; replace r1 := Row.below r1 hb1 (Row.lt r1); replace b2 := b2.below hb1 b2.lt; replace h0 := grown_below h0 hb1 h0.size; clear hb1; have cx := Row.cell r1 0; have cy := Row.cell r1 1; have ca := Row.cell r1 2; have cb := Row.cell r1 3; simp [BX] at cx cy ca cb) | (go_at_call 40; refine (isSpan_any _ _ (by assumption) (by assumption) _).mono ?_; rintro e' w' ⟨rfl, rfl⟩; (first | rw [HS1.out] | rw [HS2.out])) | (refine wpList_store_fr (f := zeroF) rfl 24 _ _ rfl _ rfl b2 rfl (by kernel_rfl) ?_))
      exact bodyPost_ret_fr2 (p := 4) (u := 5) (ty := 24) (e := 22) rfl rfl (b2.setRow _) Try.underlying24 (by kernel_rfl) rfl ⟨by rw [hc, hv]; rfl, below_setRow h0 (by omega) _⟩
    | true =>
      cases h2 : spanB y b with
      | false =>
        have hc : cutC f x y a b = 2 := by simp [cutC, ho, boxB, h1, h2]
        have HS1 := Lib.hid h1
        have HS2 := Lib.hid h2
        clear h1 h2
        have hv : ifC 2 (cutI f x y a b) = zeroF := by simp [ifC]
        go_enter Try.func21, Try.ntmps21
        go_wp2_with (first | (refine wpList_load_fr rfl 24 22 _ rfl _ rfl b1 Try.underlying24 (by kernel_rfl) ?_) | (go_at_call 39; refine (valid_any f hf _).mono ?_; rintro e' w1 ⟨rfl, hb1⟩; replace b1 := b1.below hb1 b1.lt; replace r1 := Row.below r1 hb1 (Row.lt r1); replace b2 := b2.below hb1 b2.lt; replace h0 := grown_below h0 hb1 h0.size; clear hb1; have cx := Row.cell r1 0; have cy := Row.cell r1 1; have ca := Row.cell r1 2; have cb := Row.cell r1 3; simp [BX] at cx cy ca cb) | (go_at_call 40; refine (isSpan_any _ _ (by assumption) (by assumption) _).mono ?_; rintro e' w' ⟨rfl, rfl⟩; (first | rw [HS1.out] | rw [HS2.out])) | (refine wpList_store_fr (f := zeroF) rfl 24 _ _ rfl _ rfl b2 rfl (by kernel_rfl) ?_))
        exact bodyPost_ret_fr2 (p := 4) (u := 5) (ty := 24) (e := 22) rfl rfl (b2.setRow _) Try.underlying24 (by kernel_rfl) rfl ⟨by rw [hc, hv]; rfl, below_setRow h0 (by omega) _⟩
      | true =>
        have hc : cutC f x y a b = 0 := by simp [cutC, ho, boxB, h1, h2]
        have hv : ifC 0 (cutI f x y a b) = cutI f x y a b := by simp [ifC]
        have s1 := spanB_iff.1 h1
        have s2 := spanB_iff.1 h2
        obtain ⟨X, rfl⟩ := Int.eq_ofNat_of_zero_le s1.1
        obtain ⟨Y, rfl⟩ := Int.eq_ofNat_of_zero_le s2.1
        obtain ⟨A, rfl⟩ := Int.eq_ofNat_of_zero_le (show 0 ≤ a by omega)
        obtain ⟨B, rfl⟩ := Int.eq_ofNat_of_zero_le (show 0 ≤ b by omega)
        have HS1 := Lib.hid h1
        have HS2 := Lib.hid h2
        have hcI : cutI f X Y A B = meetF f (fillF X Y A B) := rfl
        have hfl : ∀ k, fillF X Y A B k < 65536 := by
          intro k
          have := fill_lt (x := X) (a := A) (by omega)
          unfold fillF
          split <;> omega
        have cF := fun w => filled_any X Y A B (by omega) (by omega) w
        have cM := fun w => meet_any f (fillF X Y A B) hf hfl w
        clear h1 h2 hfl
        go_enter Try.func21, Try.ntmps21
        go_wp2_with (first | (refine wpList_load_fr rfl 24 22 _ rfl _ rfl b1 Try.underlying24 (by kernel_rfl) ?_) | (go_at_call 39; refine (valid_any f hf _).mono ?_; rintro e' w1 ⟨rfl, hb1⟩; replace b1 := b1.below hb1 b1.lt; replace r1 := Row.below r1 hb1 (Row.lt r1); replace b2 := b2.below hb1 b2.lt; replace h0 := grown_below h0 hb1 h0.size; clear hb1; have cx := Row.cell r1 0; have cy := Row.cell r1 1; have ca := Row.cell r1 2; have cb := Row.cell r1 3; simp [BX] at cx cy ca cb) | (go_at_call 40; refine (isSpan_any _ _ (by assumption) (by assumption) _).mono ?_; rintro e' w' ⟨rfl, rfl⟩; (first | rw [HS1.out] | rw [HS2.out])))
        refine wp_region_tail 4 (by kernel_rfl) (by kernel_rfl) ?_
        simp only [List.take_succ_cons, List.take_zero, List.drop_succ_cons, List.drop_zero]
        repeat (first | (refine wpQuiet_load_fr rfl 24 22 _ rfl _ rfl b1 Try.underlying24 (by kernel_rfl) ?_) | (refine wpQuiet_load_row rfl 36 _ rfl _ rfl r1 Try.underlying36 rfl (by kernel_rfl) ?_) | quiet_step (first | exact Calls.regrown_of (cF _) | exact Calls.regrown_of (cM _)))
        refine wpQuiet_nil ?_
        intro w3 hb1
        replace b2 := b2.below hb1 b2.lt
        replace h0 := grown_below h0 hb1 h0.size
        clear hb1
        go_wp2_with (refine wpList_store_fr rfl 24 _ _ rfl _ rfl b2 rfl (by kernel_rfl) ?_)
        exact bodyPost_ret_fr2 (p := 4) (u := 5) (ty := 24) (e := 22) rfl rfl (b2.setRow _) Try.underlying24 (by kernel_rfl) rfl ⟨by rw [hc, hv, hcI]; rfl, below_setRow h0 (by omega) _⟩
end Go.Proofs.Ytemeamamdddfnab
