/- impl: ofBoth, with whatever way of joining two frames. -/
import Derived.Test.YtpmlepgnokbpaaaRows
import Derived.Test.YtpmlepgnokbpaaaIValid
namespace Go.Proofs.Ytpmlepgnokbpaaa
set_option maxRecDepth 100000
open Go.RowKit
set_option linter.unusedVariables false
set_option maxHeartbeats 1000000 in
theorem ofBoth_any (way : FuncId) (f g r : Nat → Nat) (hf : ∀ k, f k < 65536) (hg : ∀ k, g k < 65536) (hcall : ∀ w, (callFunc way #[.agg (FC f), .agg (FC g)]).run Try.prog w = .ok (.enter way #[.agg (FC f), .agg (FC g)]) w)
    (hway : ∀ w, Calls Try.prog way #[.agg (FC f), .agg (FC g)] w fun e' w' => e' = .returned (.agg (FC r)) ∧ Below w.heap.size w w') (w : World) :
    Calls Try.prog 98 #[.agg (FC f), .agg (FC g), .func (.func way) #[] #[]] w fun e' w' => e' = .returned (.tuple #[.agg (FC (ifC (bothC f g) r)), .int .i64 (bothC f g)]) ∧ Below w.heap.size w w' := by
  have b1 := ((Blk.new w 27 f).alloc (.cells (FC g) 27)).alloc (.cells (FC zeroF) 27)
  have b2 := (Blk.new (w.alloc (.cells (FC f) 27)) 27 g).alloc (.cells (FC zeroF) 27)
  have b3 := Blk.new ((w.alloc (.cells (FC f) 27)).alloc (.cells (FC g) 27)) 27 zeroF
  rw [World.size_alloc] at b2
  rw [World.size_alloc, World.size_alloc] at b3
  have h0 := (((Below.refl w.heap.size w).alloc (Nat.le_refl _) (.cells (FC f) 27)).alloc (by simp) (.cells (FC g) 27)).alloc (by simp; omega) (.cells (FC zeroF) 27)
  rw [FC_zero] at b1 b2 b3 h0
  rcases bothC_cases f g with ⟨ho, ha⟩ | ⟨ho, h1, ha⟩ | ⟨ho, h1, ha⟩
  · clear hcall hway
    have hv : ifC 1 r = zeroF := by simp [ifC]
    go_enter Try.func98, Try.ntmps98
    go_wp2_with (first | (refine wpList_load_fr rfl 27 22 _ rfl _ rfl b1 Try.underlying27 (by kernel_rfl) ?_) | (go_at_call 54; refine (valid_any _ hf _).mono ?_; rintro e' w1 ⟨rfl, hb1⟩; replace b1 := b1.below hb1 b1.lt; replace b2 := b2.below hb1 b2.lt; replace b3 := b3.below hb1 b3.lt; replace h0 := grown_below h0 hb1 h0.size; clear hb1) | (refine wpList_store_fr (f := zeroF) rfl 27 _ _ rfl _ rfl b3 rfl (by kernel_rfl) ?_))
    exact bodyPost_ret_fr2 (p := 6) (u := 7) (ty := 27) (e := 22) rfl rfl (b3.setRow _) Try.underlying27 (by kernel_rfl) rfl ⟨by rw [ha, hv]; rfl, below_setRow h0 (by omega) _⟩
  · clear hcall hway
    have hv : ifC 1 r = zeroF := by simp [ifC]
    go_enter Try.func98, Try.ntmps98
    go_wp2_with (first | (refine wpList_load_fr rfl 27 22 _ rfl _ rfl b1 Try.underlying27 (by kernel_rfl) ?_) | (refine wpList_load_frG rfl 27 22 _ rfl _ rfl b2 Try.underlying27 (by kernel_rfl) ?_) | (go_at_call 54; refine (valid_any _ (by assumption) _).mono ?_; rintro e' w1 ⟨rfl, hb1⟩; replace b1 := b1.below hb1 b1.lt; replace b2 := b2.below hb1 b2.lt; replace b3 := b3.below hb1 b3.lt; replace h0 := grown_below h0 hb1 h0.size; clear hb1) | (refine wpList_store_fr (f := zeroF) rfl 27 _ _ rfl _ rfl b3 rfl (by kernel_rfl) ?_))
    exact bodyPost_ret_fr2 (p := 6) (u := 7) (ty := 27) (e := 22) rfl rfl (b3.setRow _) Try.underlying27 (by kernel_rfl) rfl ⟨by rw [ha, hv]; rfl, below_setRow h0 (by omega) _⟩
  · have HW := Lib.hid hway
    clear hway
    have hv : ifC 0 r = r := by simp [ifC]
    go_enter Try.func98, Try.ntmps98
    go_wp2_with (first | (refine wpList_load_fr rfl 27 22 _ rfl _ rfl b1 Try.underlying27 (by kernel_rfl) ?_) | (refine wpList_load_fr rfl 27 22 _ rfl _ rfl b2 Try.underlying27 (by kernel_rfl) ?_) | (refine wpList_load_frG rfl 27 22 _ rfl _ rfl b2 Try.underlying27 (by kernel_rfl) ?_) | (go_at_call 54; refine (valid_any _ (by assumption) _).mono ?_; rintro e' w1 ⟨rfl, hb1⟩; replace b1 := b1.below hb1 b1.lt; replace b2 := b2.below hb1 b2.lt; replace b3 := b3.below hb1 b3.lt; replace h0 := grown_below h0 hb1 h0.size; clear hb1))
    refine (HW.out _).mono ?_
    rintro e' w2 ⟨rfl, hb1⟩
    replace b3 := b3.below hb1 b3.lt
    replace h0 := grown_below h0 hb1 h0.size
    go_wp2_with (refine wpList_store_fr rfl 27 _ _ rfl _ rfl b3 rfl (by kernel_rfl) ?_)
    exact bodyPost_ret_fr2 (p := 6) (u := 7) (ty := 27) (e := 22) rfl rfl (b3.setRow _) Try.underlying27 (by kernel_rfl) rfl ⟨by rw [ha, hv]; rfl, below_setRow h0 (by omega) _⟩
end Go.Proofs.Ytpmlepgnokbpaaa
