/- impl: moveBy, MoveFrame. -/
import Derived.Test.YtemeamamdddfnaaRows
import Derived.Test.YtemeamamdddfnaaIMoved
namespace Go.Proofs.Ytemeamamdddfnaa
open Go.RowKit
set_option linter.unusedVariables false
set_option maxHeartbeats 1000000 in
theorem moveBy_any (g : FuncId) (f r : Nat → Nat) (e s : Int) (hf : ∀ k, f k < 65536) (hcall : ∀ w, (callFunc g #[.agg (FC f), .int .i64 e, .int .i64 s]).run Try.prog w = .ok (.enter g #[.agg (FC f), .int .i64 e, .int .i64 s]) w)
    (hg : okF f = true → -12 ≤ e → e ≤ 12 → -12 ≤ s → s ≤ 12 → ∀ w, Calls Try.prog g #[.agg (FC f), .int .i64 e, .int .i64 s] w fun e' w' => e' = .returned (.agg (FC r)) ∧ Below w.heap.size w w') (w : World) :
    Calls Try.prog 53 #[.agg (FC f), .int .i64 e, .int .i64 s, .func (.func g) #[] #[]] w fun e' w' => e' = .returned (.tuple #[.agg (FC (ifC (wayC f e s) r)), .int .i64 (wayC f e s)]) ∧ Below w.heap.size w w' := by
  have b1 := (Blk.new w 27 f).alloc (.cells (FC zeroF) 27)
  have b2 := Blk.new (w.alloc (.cells (FC f) 27)) 27 zeroF
  rw [World.size_alloc] at b2
  have h0 := ((Below.refl w.heap.size w).alloc (Nat.le_refl _) (.cells (FC f) 27)).alloc (by simp) (.cells (FC zeroF) 27)
  rw [FC_zero] at b1 b2 h0
  rcases wayC_cases f e s with ⟨ho, ha⟩ | ⟨ho, h1, ha⟩ | ⟨ho, h1, h2, ha⟩ | ⟨ho, h1, h2, ha⟩
  · clear hg hcall
    have hv : ifC 1 r = zeroF := by simp [ifC]
    go_enter Try.func53, Try.ntmps53
    go_wp2_with (first | (refine wpList_load_fr rfl 27 24 _ rfl _ rfl b1 Try.underlying27 (by kernel_rfl) ?_) | (go_at_call 15; refine (valid_any f hf _).mono ?_; rintro e' w1 ⟨rfl, hb1⟩; replace b1 := b1.below hb1 b1.lt; replace b2 := b2.below hb1 b2.lt; replace h0 := grown_below h0 hb1 h0.size; clear hb1) | (go_at_call 59; refine (isMove_any _ _).mono ?_; rintro e' w' ⟨rfl, rfl⟩) | (refine wpList_store_fr (f := zeroF) rfl 27 _ _ rfl _ rfl b2 rfl (by kernel_rfl) ?_))
    refine bodyPost_ret_fr2 (p := 8) (u := 9) (ty := 27) (e := 24) rfl rfl (b2.setRow _) Try.underlying27 (by kernel_rfl) rfl ⟨by rw [ha, hv]; rfl, below_setRow h0 (by omega) _⟩
  · clear hg hcall
    have hv : ifC 2 r = zeroF := by simp [ifC]
    go_enter Try.func53, Try.ntmps53
    go_wp2_with (first | (refine wpList_load_fr rfl 27 24 _ rfl _ rfl b1 Try.underlying27 (by kernel_rfl) ?_) | (go_at_call 15; refine (valid_any f hf _).mono ?_; rintro e' w1 ⟨rfl, hb1⟩; replace b1 := b1.below hb1 b1.lt; replace b2 := b2.below hb1 b2.lt; replace h0 := grown_below h0 hb1 h0.size; clear hb1) | (go_at_call 59; refine (isMove_any _ _).mono ?_; rintro e' w' ⟨rfl, rfl⟩) | (refine wpList_store_fr (f := zeroF) rfl 27 _ _ rfl _ rfl b2 rfl (by kernel_rfl) ?_))
    refine bodyPost_ret_fr2 (p := 8) (u := 9) (ty := 27) (e := 24) rfl rfl (b2.setRow _) Try.underlying27 (by kernel_rfl) rfl ⟨by rw [ha, hv]; rfl, below_setRow h0 (by omega) _⟩
  · clear hg hcall
    have hv : ifC 2 r = zeroF := by simp [ifC]
    go_enter Try.func53, Try.ntmps53
    go_wp2_with (first | (refine wpList_load_fr rfl 27 24 _ rfl _ rfl b1 Try.underlying27 (by kernel_rfl) ?_) | (go_at_call 15; refine (valid_any f hf _).mono ?_; rintro e' w1 ⟨rfl, hb1⟩; replace b1 := b1.below hb1 b1.lt; replace b2 := b2.below hb1 b2.lt; replace h0 := grown_below h0 hb1 h0.size; clear hb1) | (go_at_call 59; refine (isMove_any _ _).mono ?_; rintro e' w' ⟨rfl, rfl⟩) | (refine wpList_store_fr (f := zeroF) rfl 27 _ _ rfl _ rfl b2 rfl (by kernel_rfl) ?_))
    refine bodyPost_ret_fr2 (p := 8) (u := 9) (ty := 27) (e := 24) rfl rfl (b2.setRow _) Try.underlying27 (by kernel_rfl) rfl ⟨by rw [ha, hv]; rfl, below_setRow h0 (by omega) _⟩
  · have hv : ifC 0 r = r := by simp [ifC]
    have i1 := inB_iff.1 h1
    have i2 := inB_iff.1 h2
    have HG := Lib.hid (hg ho i1.1 i1.2 i2.1 i2.2)
    clear hg
    go_enter Try.func53, Try.ntmps53
    go_wp2_with (first | (refine wpList_load_fr rfl 27 24 _ rfl _ rfl b1 Try.underlying27 (by kernel_rfl) ?_) | (go_at_call 15; refine (valid_any f hf _).mono ?_; rintro e' w1 ⟨rfl, hb1⟩; replace b1 := b1.below hb1 b1.lt; replace b2 := b2.below hb1 b2.lt; replace h0 := grown_below h0 hb1 h0.size; clear hb1) | (go_at_call 59; refine (isMove_any _ _).mono ?_; rintro e' w' ⟨rfl, rfl⟩))
    refine (HG.out _).mono ?_
    rintro e' w2 ⟨rfl, hb1⟩
    replace b2 := b2.below hb1 b2.lt
    replace h0 := grown_below h0 hb1 h0.size
    clear hcall
    go_wp2_with (refine wpList_store_fr rfl 27 _ _ rfl _ rfl b2 rfl (by kernel_rfl) ?_)
    exact bodyPost_ret_fr2 (p := 8) (u := 9) (ty := 27) (e := 24) rfl rfl (b2.setRow _) Try.underlying27 (by kernel_rfl) rfl ⟨by rw [ha, hv]; rfl, below_setRow h0 (by omega) _⟩
set_option maxHeartbeats 1000000 in
theorem implMoveFrame_any (f : Nat → Nat) (e s : Int) (hf : ∀ k, f k < 65536) (w : World) :
    Calls Try.prog 29 #[.agg (FC f), .int .i64 e, .int .i64 s] w fun e' w' => e' = .returned (.tuple #[.agg (FC (ifC (wayC f e s) (movedI f e s 12))), .int .i64 (wayC f e s)]) ∧ Below w.heap.size w w' := by
  have b1 := (Blk.new w 27 f).alloc (.cells (FC zeroF) 27)
  have b2 := Blk.new (w.alloc (.cells (FC f) 27)) 27 zeroF
  rw [World.size_alloc] at b2
  have h0 := ((Below.refl w.heap.size w).alloc (Nat.le_refl _) (.cells (FC f) 27)).alloc (by simp) (.cells (FC zeroF) 27)
  rw [FC_zero] at b1 b2 h0
  go_enter Try.func29, Try.ntmps29
  go_wp2_with (first | (refine wpList_load_fr rfl 27 24 _ rfl _ rfl b1 Try.underlying27 (by kernel_rfl) ?_) | (go_at_call 53; refine (moveBy_any 54 f (movedI f e s 12) e s hf (fun _ => by kernel_rfl) (fun ho e1 e2 s1 s2 w => moved_any f e s ho e1 e2 s1 s2 w) _).mono ?_; rintro e' w1 ⟨rfl, hb1⟩; replace b1 := b1.below hb1 b1.lt; replace b2 := b2.below hb1 b2.lt; replace h0 := grown_below h0 hb1 h0.size; clear hb1) | (refine wpList_store_fr rfl 27 _ _ rfl _ rfl b2 rfl (by kernel_rfl) ?_))
  exact bodyPost_ret_fr2 (p := 6) (u := 7) (ty := 27) (e := 24) rfl rfl (b2.setRow _) Try.underlying27 (by kernel_rfl) rfl ⟨rfl, below_setRow h0 (by omega) _⟩
end Go.Proofs.Ytemeamamdddfnaa
