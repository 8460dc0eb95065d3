/- impl: CelFrom, MoveCel, LayOver, ShownBy. -/
import Derived.Test.YtpmlepgnokbpaaaRows
import Derived.Test.YtpmlepgnokbpaaaICel
import Derived.Test.YtpmlepgnokbpaaaIJoinFrames
import Derived.Test.YtpmlepgnokbpaaaIMoved
import Derived.Test.YtpmlepgnokbpaaaSCel2
namespace Go.Proofs.Ytpmlepgnokbpaaa
set_option maxRecDepth 100000
open Go.RowKit
set_option linter.unusedVariables false
set_option linter.unusedSimpArgs false
set_option maxHeartbeats 1000000 in
theorem implCelFrom_any (i k : Nat → Nat) (hi : ∀ y, i y < 65536) (hk : ∀ y, k y < 65536) (w : World) :
    Calls Try.prog 27 #[.agg (FC i), .agg (FC k)] w fun e' w' => e' = .returned (.tuple #[.agg (CC (ifC (bothC i k) i) (ifC (bothC i k) (joinF i k))), .int .i64 (bothC i k)]) ∧ Below w.heap.size w w' := by
  have b1 := ((Blk.new w 27 i).alloc (.cells (FC k) 27)).alloc (.cells (CC zeroF zeroF) 29)
  have b2 := (Blk.new (w.alloc (.cells (FC i) 27)) 27 k).alloc (.cells (CC zeroF zeroF) 29)
  have r := CelAt.new ((w.alloc (.cells (FC i) 27)).alloc (.cells (FC k) 27)) 29 zeroF zeroF
  rw [World.size_alloc] at b2
  rw [World.size_alloc, World.size_alloc] at r
  have h0 := (((Below.refl w.heap.size w).alloc (Nat.le_refl _) (.cells (FC i) 27)).alloc (by simp) (.cells (FC k) 27)).alloc (by simp; omega) (.cells (CC zeroF zeroF) 29)
  rw [CC_zero] at b1 b2 r h0
  have cJ := fun w => implJoinFrames_any i k hi hk w
  have hbl := build_cel i (joinF i k)
  rcases bothC_cases i k with ⟨ho, ha⟩ | ⟨ho, h1, ha⟩ | ⟨ho, h1, ha⟩
  case inr.inr =>
    rw [ha, show ifC 0 (joinF i k) = joinF i k by simp [ifC]] at cJ
    rw [ha, show ifC 0 i = i by simp [ifC], show ifC 0 (joinF i k) = joinF i k by simp [ifC]]
    clear ho h1 ha
    go_enter Try.func27, Try.ntmps27
    go_wp2_with (first | (refine wpList_store_cel rfl 29 _ _ rfl r rfl rfl (by kernel_rfl) ?_; intro r') | (refine wpList_load_fr rfl 27 22 _ rfl _ rfl (by first | with_reducible exact b1 | with_reducible exact b2 | with_reducible exact b3) Try.underlying27 (by kernel_rfl) ?_) | (go_at_call 65; refine (cJ _).mono ?_; rintro e' w1 ⟨rfl, hb⟩; replace b1 := b1.below hb b1.lt; replace b2 := b2.below hb b2.lt; replace r := r.below hb r.lt; replace h0 := grown_below h0 hb h0.size; clear hb) | (refine wpList_store_new (f0 := zeroF) (f := joinF i k) rfl 27 _ _ rfl rfl rfl (by kernel_rfl) ?_; have b3 := Blk.new w1 27 (joinF i k); replace b1 := b1.alloc (.cells (FC (joinF i k)) 27); replace b2 := b2.alloc (.cells (FC (joinF i k)) 27); replace r := r.alloc (.cells (FC (joinF i k)) 27); replace h0 := h0.alloc h0.size (.cells (FC (joinF i k)) 27); generalize w1.alloc (.cells (FC (joinF i k)) 27) = w2 at *) | (refine wpList_build2 (u := .agg (FC i)) (v := .agg (FC (joinF i k))) rfl 29 0 1 _ _ rfl rfl rfl hbl ?_))
    exact bodyPost_ret_row2 (p := 4) (u := 5) (ty := 29) rfl rfl r' Try.underlying29 rfl (by kernel_rfl) rfl ⟨rfl, below_setRow h0 (by omega) _⟩
  all_goals
    rw [ha, show ifC 1 (joinF i k) = zeroF by simp [ifC]] at cJ
    rw [ha, show ifC 1 i = zeroF by simp [ifC], show ifC 1 (joinF i k) = zeroF by simp [ifC]]
    clear ho ha
    go_enter Try.func27, Try.ntmps27
    go_wp2_with (first | (refine wpList_store_cel (i := zeroF) (k := zeroF) rfl 29 _ _ rfl r rfl rfl (by kernel_rfl) ?_; intro r') | (refine wpList_load_fr rfl 27 22 _ rfl _ rfl (by first | with_reducible exact b1 | with_reducible exact b2) Try.underlying27 (by kernel_rfl) ?_) | (go_at_call 65; refine (cJ _).mono ?_; rintro e' w1 ⟨rfl, hb⟩; replace r := r.below hb r.lt; replace h0 := grown_below h0 hb h0.size; clear hb) | (refine wpList_store_new (f0 := zeroF) (f := zeroF) rfl 27 _ _ rfl rfl rfl (by kernel_rfl) ?_; replace r := r.alloc (.cells (FC zeroF) 27); replace h0 := h0.alloc h0.size (.cells (FC zeroF) 27); generalize w1.alloc (.cells (FC zeroF) 27) = w2 at *))
    exact bodyPost_ret_row2 (p := 4) (u := 5) (ty := 29) rfl rfl r' Try.underlying29 rfl (by kernel_rfl) rfl ⟨rfl, below_setRow h0 (by omega) _⟩
set_option maxHeartbeats 1000000 in
theorem implMoveCel_any (i k : Nat → Nat) (e s : Int) (hi : ∀ y, i y < 65536) (hk : ∀ y, k y < 65536) (w : World) :
    Calls Try.prog 30 #[.agg (CC i k), .int .i64 e, .int .i64 s] w fun e' w' => e' = .returned (.tuple #[.agg (CC (ifC (mvcC i k e s) (movedI i e s 12)) (ifC (mvcC i k e s) (movedI k e s 12))), .int .i64 (mvcC i k e s)]) ∧ Below w.heap.size w w' := by
  have a1 := (CelAt.new w 29 i k).alloc (.cells (CC zeroF zeroF) 29)
  have r := CelAt.new (w.alloc (.cells (CC i k) 29)) 29 zeroF zeroF
  rw [World.size_alloc] at r
  have h0 := ((Below.refl w.heap.size w).alloc (Nat.le_refl _) (.cells (CC i k) 29)).alloc (by simp) (.cells (CC zeroF zeroF) 29)
  rw [CC_zero] at a1 r h0
  have cC := fun w => implValidCel_any i k hi hk w
  have cV := fun n w => isMove_any n w
  rcases mvcC_cases i k e s with ⟨ho, ha⟩ | ⟨ho, h1, ha⟩ | ⟨ho, h1, h2, ha⟩ | ⟨ho, h1, h2, ha⟩
  case inr.inr.inr =>
    rw [ho] at cC
    obtain ⟨oi, ok⟩ := okc_true ho
    have i1 := inB_iff.1 h1
    have i2 := inB_iff.1 h2
    have cM := fun w' => implCelMoved_any i k e s oi ok (by omega) (by omega) (by omega) (by omega) w'
    rw [ha, show ifC 0 (movedI i e s 12) = movedI i e s 12 by simp [ifC], show ifC 0 (movedI k e s 12) = movedI k e s 12 by simp [ifC]]
    clear ho ha i1 i2
    go_enter Try.func30, Try.ntmps30
    go_wp2_with (first | (refine wpList_load_cel rfl 29 _ rfl rfl a1 Try.underlying29 rfl (by kernel_rfl) ?_) | (go_at_call 17; refine (cC _).mono ?_; rintro e' w1 ⟨rfl, hb⟩; replace a1 := a1.below hb a1.lt; replace r := r.below hb r.lt; replace h0 := grown_below h0 hb h0.size; clear hb) | (go_at_call 68; refine (cV _ _).mono ?_; rintro e' w' ⟨rfl, rfl⟩) | (go_at_call 69; refine (cM _).mono ?_; rintro e' w1 ⟨rfl, hb⟩; replace r := r.below hb r.lt; replace h0 := grown_below h0 hb h0.size; clear hb) | (refine wpList_store_cel rfl 29 _ _ rfl r rfl rfl (by kernel_rfl) ?_; intro r'))
    exact bodyPost_ret_row2 (p := 6) (u := 7) (ty := 29) rfl rfl r' Try.underlying29 rfl (by kernel_rfl) rfl ⟨rfl, below_setRow h0 (by omega) _⟩
  case inl =>
    rw [ho] at cC
    rw [ha, show ifC 1 (movedI i e s 12) = zeroF by simp [ifC], show ifC 1 (movedI k e s 12) = zeroF by simp [ifC]]
    clear ho ha
    go_enter Try.func30, Try.ntmps30
    go_wp2_with (first | (refine wpList_load_cel rfl 29 _ rfl rfl a1 Try.underlying29 rfl (by kernel_rfl) ?_) | (go_at_call 17; refine (cC _).mono ?_; rintro e' w1 ⟨rfl, hb⟩; replace a1 := a1.below hb a1.lt; replace r := r.below hb r.lt; replace h0 := grown_below h0 hb h0.size; clear hb) | (refine wpList_store_cel (i := zeroF) (k := zeroF) rfl 29 _ _ rfl r rfl rfl (by kernel_rfl) ?_; intro r'))
    exact bodyPost_ret_row2 (p := 6) (u := 7) (ty := 29) rfl rfl r' Try.underlying29 rfl (by kernel_rfl) rfl ⟨rfl, below_setRow h0 (by omega) _⟩
  all_goals
    rw [ho] at cC
    rw [ha, show ifC 2 (movedI i e s 12) = zeroF by simp [ifC], show ifC 2 (movedI k e s 12) = zeroF by simp [ifC]]
    clear ho ha
    go_enter Try.func30, Try.ntmps30
    go_wp2_with (first | (refine wpList_load_cel rfl 29 _ rfl rfl a1 Try.underlying29 rfl (by kernel_rfl) ?_) | (go_at_call 17; refine (cC _).mono ?_; rintro e' w1 ⟨rfl, hb⟩; replace a1 := a1.below hb a1.lt; replace r := r.below hb r.lt; replace h0 := grown_below h0 hb h0.size; clear hb) | (go_at_call 68; refine (cV _ _).mono ?_; rintro e' w' ⟨rfl, rfl⟩) | (refine wpList_store_cel (i := zeroF) (k := zeroF) rfl 29 _ _ rfl r rfl rfl (by kernel_rfl) ?_; intro r'))
    exact bodyPost_ret_row2 (p := 6) (u := 7) (ty := 29) rfl rfl r' Try.underlying29 rfl (by kernel_rfl) rfl ⟨rfl, below_setRow h0 (by omega) _⟩
set_option maxHeartbeats 1000000 in
theorem implLayOver_any (i k i2 k2 : Nat → Nat) (hi : ∀ y, i y < 65536) (hk : ∀ y, k y < 65536) (hi2 : ∀ y, i2 y < 65536) (hk2 : ∀ y, k2 y < 65536) (w : World) :
    Calls Try.prog 32 #[.agg (CC i k), .agg (CC i2 k2)] w fun e' w' => e' = .returned (.tuple #[.agg (CC (ifC (ovC i k i2 k2) (ovI i k i2)) (ifC (ovC i k i2 k2) (joinF k k2))), .int .i64 (ovC i k i2 k2)]) ∧ Below w.heap.size w w' := by
  have a1 := ((CelAt.new w 29 i k).alloc (.cells (CC i2 k2) 29)).alloc (.cells (CC zeroF zeroF) 29)
  have a2 := (CelAt.new (w.alloc (.cells (CC i k) 29)) 29 i2 k2).alloc (.cells (CC zeroF zeroF) 29)
  have r := CelAt.new ((w.alloc (.cells (CC i k) 29)).alloc (.cells (CC i2 k2) 29)) 29 zeroF zeroF
  rw [World.size_alloc] at a2
  rw [World.size_alloc, World.size_alloc] at r
  have h0 := (((Below.refl w.heap.size w).alloc (Nat.le_refl _) (.cells (CC i k) 29)).alloc (by simp) (.cells (CC i2 k2) 29)).alloc (by simp; omega) (.cells (CC zeroF zeroF) 29)
  rw [CC_zero] at a1 a2 r h0
  have c1 := fun w' => implValidCel_any i k hi hk w'
  have c2 := fun w' => implValidCel_any i2 k2 hi2 hk2 w'
  have cO := fun w' => upon_any i k i2 k2 hi hk hi2 hk2 w'
  rcases ovC_cases i k i2 k2 with ⟨ho, ha⟩ | ⟨ho, h1, ha⟩ | ⟨ho, h1, ha⟩
  case inr.inr =>
    rw [ho] at c1
    rw [h1] at c2
    rw [ha, show ifC 0 (ovI i k i2) = ovI i k i2 by simp [ifC], show ifC 0 (joinF k k2) = joinF k k2 by simp [ifC]]
    clear ho h1 ha
    go_enter Try.func32, Try.ntmps32
    go_wp2_with (first | (refine wpList_load_cel rfl 29 _ rfl rfl (by first | with_reducible exact a1 | with_reducible exact a2) Try.underlying29 rfl (by kernel_rfl) ?_) | (refine wpList_load_celG rfl 29 _ rfl rfl (by first | with_reducible exact a1 | with_reducible exact a2) Try.underlying29 rfl (by kernel_rfl) ?_) | (go_at_call 17; first | (with_reducible refine (c1 _).mono ?_; clear c1; rintro e' w1 ⟨rfl, hb⟩; replace a1 := a1.below hb a1.lt; replace a2 := a2.below hb a2.lt; replace r := r.below hb r.lt; replace h0 := grown_below h0 hb h0.size; clear hb) | (refine (c2 _).mono ?_; clear c2; rintro e' w2 ⟨rfl, hb⟩; replace a1 := a1.below hb a1.lt; replace a2 := a2.below hb a2.lt; replace r := r.below hb r.lt; replace h0 := grown_below h0 hb h0.size; clear hb)) | (go_at_call 71; refine (cO _).mono ?_; rintro e' w1 ⟨rfl, hb⟩; replace r := r.below hb r.lt; replace h0 := grown_below h0 hb h0.size; clear hb) | (refine wpList_store_cel rfl 29 _ _ rfl r rfl rfl (by kernel_rfl) ?_; intro r'))
    exact bodyPost_ret_row2 (p := 4) (u := 5) (ty := 29) rfl rfl r' Try.underlying29 rfl (by kernel_rfl) rfl ⟨rfl, below_setRow h0 (by omega) _⟩
  all_goals
    rw [ho] at c1
    try rw [h1] at c2
    rw [ha, show ifC 1 (ovI i k i2) = zeroF by simp [ifC], show ifC 1 (joinF k k2) = zeroF by simp [ifC]]
    clear ho ha
    go_enter Try.func32, Try.ntmps32
    go_wp2_with (first | (refine wpList_load_cel rfl 29 _ rfl rfl (by first | with_reducible exact a1 | with_reducible exact a2) Try.underlying29 rfl (by kernel_rfl) ?_) | (refine wpList_load_celG rfl 29 _ rfl rfl (by first | with_reducible exact a1 | with_reducible exact a2) Try.underlying29 rfl (by kernel_rfl) ?_) | (go_at_call 17; first | (with_reducible refine (c1 _).mono ?_; clear c1; rintro e' w1 ⟨rfl, hb⟩; replace a1 := a1.below hb a1.lt; replace a2 := a2.below hb a2.lt; replace r := r.below hb r.lt; replace h0 := grown_below h0 hb h0.size; clear hb) | (refine (c2 _).mono ?_; clear c2; rintro e' w2 ⟨rfl, hb⟩; replace a1 := a1.below hb a1.lt; replace a2 := a2.below hb a2.lt; replace r := r.below hb r.lt; replace h0 := grown_below h0 hb h0.size; clear hb)) | (refine wpList_store_cel (i := zeroF) (k := zeroF) rfl 29 _ _ rfl r rfl rfl (by kernel_rfl) ?_; intro r'))
    exact bodyPost_ret_row2 (p := 4) (u := 5) (ty := 29) rfl rfl r' Try.underlying29 rfl (by kernel_rfl) rfl ⟨rfl, below_setRow h0 (by omega) _⟩
set_option maxHeartbeats 1000000 in
theorem implShownBy_any (i k : Nat → Nat) (hi : ∀ y, i y < 65536) (hk : ∀ y, k y < 65536) (w : World) :
    Calls Try.prog 34 #[.agg (CC i k)] w fun e' w' => e' = .returned (.tuple #[.agg (FC (ifC (celC i k) i)), .int .i64 (celC i k)]) ∧ Below w.heap.size w w' := by
  have a1 := (CelAt.new w 29 i k).alloc (.cells (FC zeroF) 27)
  have r := Blk.new (w.alloc (.cells (CC i k) 29)) 27 zeroF
  rw [World.size_alloc] at r
  have h0 := ((Below.refl w.heap.size w).alloc (Nat.le_refl _) (.cells (CC i k) 29)).alloc (by simp) (.cells (FC zeroF) 27)
  rw [FC_zero] at a1 r h0
  have c1 := fun w' => implValidCel_any i k hi hk w'
  unfold celC
  cases ho : okc i k with
  | true =>
    rw [ho] at c1
    rw [if_pos rfl, show ifC 0 i = i by simp [ifC]]
    clear ho
    go_enter Try.func34, Try.ntmps34
    go_wp2_with (first | (refine wpList_load_cel rfl 29 _ rfl rfl a1 Try.underlying29 rfl (by kernel_rfl) ?_) | (go_at_call 17; refine (c1 _).mono ?_; rintro e' w1 ⟨rfl, hb⟩; replace a1 := a1.below hb a1.lt; replace r := r.below hb r.lt; replace h0 := grown_below h0 hb h0.size; clear hb) | (refine wpList_load_at rfl 27 22 _ rfl _ _ rfl a1.ink Try.underlying27 (by kernel_rfl) ?_) | (refine wpList_store_fr rfl 27 _ _ rfl _ rfl r rfl (by kernel_rfl) ?_))
    exact bodyPost_ret_fr2 (p := 2) (u := 3) (ty := 27) (e := 22) rfl rfl (r.setRow _) Try.underlying27 (by kernel_rfl) rfl ⟨rfl, below_setRow h0 (by omega) _⟩
  | false =>
    rw [ho] at c1
    rw [if_neg (by decide), show ifC 1 i = zeroF by simp [ifC]]
    clear ho
    go_enter Try.func34, Try.ntmps34
    go_wp2_with (first | (refine wpList_load_cel rfl 29 _ rfl rfl a1 Try.underlying29 rfl (by kernel_rfl) ?_) | (go_at_call 17; refine (c1 _).mono ?_; rintro e' w1 ⟨rfl, hb⟩; replace a1 := a1.below hb a1.lt; replace r := r.below hb r.lt; replace h0 := grown_below h0 hb h0.size; clear hb) | (refine wpList_store_fr (f := zeroF) rfl 27 _ _ rfl _ rfl r rfl (by kernel_rfl) ?_))
    exact bodyPost_ret_fr2 (p := 2) (u := 3) (ty := 27) (e := 22) rfl rfl (r.setRow _) Try.underlying27 (by kernel_rfl) rfl ⟨rfl, below_setRow h0 (by omega) _⟩
end Go.Proofs.Ytpmlepgnokbpaaa
