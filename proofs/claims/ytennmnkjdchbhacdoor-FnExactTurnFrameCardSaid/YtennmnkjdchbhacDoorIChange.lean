/- impl: changeBy, at each index of its table. -/
import Derived.Test.YtennmnkjdchbhacDoorRows
import Derived.Test.YtennmnkjdchbhacDoorIValid
import Derived.Test.YtennmnkjdchbhacDoorSInvert
namespace Go.Proofs.YtennmnkjdchbhacDoor
set_option maxRecDepth 100000
open Go.RowKit
set_option linter.unusedVariables false
def tableF : Array Value := #[.func (.func 54) #[] #[], .func (.func 55) #[] #[], .func (.func 56) #[] #[], .func (.func 50) #[] #[], .func (.func 57) #[] #[], .func (.func 58) #[] #[]]
theorem table_one : ∀ v ∈ (tableF).toList, v.oneCell' = true := by
  simp [tableF, Value.oneCell']
set_option maxHeartbeats 1000000 in
theorem change_turned (f r : Nat → Nat) (hf : ∀ k, f k < 65536)
    (w : World)
    (hg : okF f = true → ∀ w1, Below w.heap.size w w1 → Calls Tryd.prog 54 #[.agg (FC f)] w1 fun e' w' => e' = .returned (.agg (FC r)) ∧ Below w1.heap.size w1 w') :
    Calls Tryd.prog 39 #[.agg (FC f), .int .i64 0] w fun e' w' => e' = .returned (.tuple #[.agg (FC (ifC (okC f) r)), .int .i64 (okC f)]) ∧ Below w.heap.size w w' := by
  have b1 := (Blk.new w 33 f).alloc (.cells (FC zeroF) 33)
  have b2 := Blk.new (w.alloc (.cells (FC f) 33)) 33 zeroF
  rw [World.size_alloc] at b2
  have h0 := ((Below.refl w.heap.size w).alloc (Nat.le_refl _) (.cells (FC f) 33)).alloc (by simp) (.cells (FC zeroF) 33)
  rw [FC_zero] at b1 b2 h0
  have hcall : ∀ w, (callFunc 54 #[.agg (FC f)]).run Tryd.prog w = .ok (.enter 54 #[.agg (FC f)]) w := fun _ => by kernel_rfl
  rcases okC_cases f with ⟨ho, ha⟩ | ⟨ho, ha⟩
  · clear hg hcall
    have hv : ifC 1 r = zeroF := by simp [ifC]
    go_enter Tryd.func39, Tryd.ntmps39
    go_wp2_with (first | (refine wpList_load_fr rfl 33 28 _ rfl _ rfl b1 Tryd.underlying33 (by kernel_rfl) ?_) | (go_at_call 34; refine (valid_any f hf _).mono ?_; rintro e' w1 ⟨rfl, hb1⟩; replace b1 := b1.below hb1 b1.lt; replace b2 := b2.below hb1 b2.lt; replace h0 := grown_below h0 hb1 h0.size; clear hb1) | (refine wpList_store_fr (f := zeroF) rfl 33 _ _ rfl _ rfl b2 rfl (by kernel_rfl) ?_))
    exact bodyPost_ret_fr2 (p := 4) (u := 5) (ty := 33) (e := 28) rfl rfl (b2.setRow _) Tryd.underlying33 (by kernel_rfl) rfl ⟨by rw [ha, hv]; rfl, below_setRow h0 (by omega) _⟩
  · have hv : ifC 0 r = r := by simp [ifC]
    have HG := Lib.hid (hg ho)
    clear hg
    go_enter Tryd.func39, Tryd.ntmps39
    go_wp2_with (first | (refine wpList_load_fr rfl 33 28 _ rfl _ rfl b1 Tryd.underlying33 (by kernel_rfl) ?_) | (go_at_call 34; refine (valid_any f hf _).mono ?_; rintro e' w1 ⟨rfl, hb1⟩; replace b1 := b1.below hb1 b1.lt; replace b2 := b2.below hb1 b2.lt; replace h0 := grown_below h0 hb1 h0.size; clear hb1) | (refine wpList_store_row rfl 89 _ _ rfl _ rfl (Row.new w1 89 _) rfl rfl table_one (by kernel_rfl) ?_; rw [setRow_new]))
    change Code.wp _ _ _ _ (w1.alloc (.cells tableF 89))
    have cT : (w1.alloc (.cells tableF 89)).cell? ⟨w1.heap.size, 0, none⟩ = some (.func (.func 54) #[] #[]) := (Row.new w1 89 tableF).cell 0
    replace b1 := b1.alloc (.cells tableF 89)
    replace b2 := b2.alloc (.cells tableF 89)
    replace h0 := h0.alloc h0.size (.cells tableF 89)
    generalize w1.alloc (.cells tableF 89) = w2 at *
    generalize w1.heap.size = gT at *
    have cT2 := fun d os => cell_regrown cT d os
    clear hf ho cT
    refine wp_region_tail 5 (by kernel_rfl) (by kernel_rfl) ?_
    simp only [List.take_succ_cons, List.take_zero, List.drop_succ_cons, List.drop_zero]
    repeat (first | (refine wpQuiet_load_fr rfl 33 28 _ rfl _ rfl b1 Tryd.underlying33 (by kernel_rfl) ?_) | quiet_step (exact Calls.regrown_of (HG.out _ (grown_below h0 (below_regrown _ _ _) h0.size))))
    refine wpQuiet_nil ?_
    intro w3 hb1
    replace b2 := b2.below hb1 b2.lt
    replace h0 := grown_below h0 hb1 h0.size
    clear hcall hb1
    go_wp2_with (refine wpList_store_fr rfl 33 _ _ rfl _ rfl b2 rfl (by kernel_rfl) ?_)
    exact bodyPost_ret_fr2 (p := 4) (u := 5) (ty := 33) (e := 28) rfl rfl (b2.setRow _) Tryd.underlying33 (by kernel_rfl) rfl ⟨by rw [ha, hv]; rfl, below_setRow h0 (by omega) _⟩
set_option maxHeartbeats 1000000 in
theorem change_mirrored (f r : Nat → Nat) (hf : ∀ k, f k < 65536)
    (w : World)
    (hg : okF f = true → ∀ w1, Below w.heap.size w w1 → Calls Tryd.prog 55 #[.agg (FC f)] w1 fun e' w' => e' = .returned (.agg (FC r)) ∧ Below w1.heap.size w1 w') :
    Calls Tryd.prog 39 #[.agg (FC f), .int .i64 1] w fun e' w' => e' = .returned (.tuple #[.agg (FC (ifC (okC f) r)), .int .i64 (okC f)]) ∧ Below w.heap.size w w' := by
  have b1 := (Blk.new w 33 f).alloc (.cells (FC zeroF) 33)
  have b2 := Blk.new (w.alloc (.cells (FC f) 33)) 33 zeroF
  rw [World.size_alloc] at b2
  have h0 := ((Below.refl w.heap.size w).alloc (Nat.le_refl _) (.cells (FC f) 33)).alloc (by simp) (.cells (FC zeroF) 33)
  rw [FC_zero] at b1 b2 h0
  have hcall : ∀ w, (callFunc 55 #[.agg (FC f)]).run Tryd.prog w = .ok (.enter 55 #[.agg (FC f)]) w := fun _ => by kernel_rfl
  rcases okC_cases f with ⟨ho, ha⟩ | ⟨ho, ha⟩
  · clear hg hcall
    have hv : ifC 1 r = zeroF := by simp [ifC]
    go_enter Tryd.func39, Tryd.ntmps39
    go_wp2_with (first | (refine wpList_load_fr rfl 33 28 _ rfl _ rfl b1 Tryd.underlying33 (by kernel_rfl) ?_) | (go_at_call 34; refine (valid_any f hf _).mono ?_; rintro e' w1 ⟨rfl, hb1⟩; replace b1 := b1.below hb1 b1.lt; replace b2 := b2.below hb1 b2.lt; replace h0 := grown_below h0 hb1 h0.size; clear hb1) | (refine wpList_store_fr (f := zeroF) rfl 33 _ _ rfl _ rfl b2 rfl (by kernel_rfl) ?_))
    exact bodyPost_ret_fr2 (p := 4) (u := 5) (ty := 33) (e := 28) rfl rfl (b2.setRow _) Tryd.underlying33 (by kernel_rfl) rfl ⟨by rw [ha, hv]; rfl, below_setRow h0 (by omega) _⟩
  · have hv : ifC 0 r = r := by simp [ifC]
    have HG := Lib.hid (hg ho)
    clear hg
    go_enter Tryd.func39, Tryd.ntmps39
    go_wp2_with (first | (refine wpList_load_fr rfl 33 28 _ rfl _ rfl b1 Tryd.underlying33 (by kernel_rfl) ?_) | (go_at_call 34; refine (valid_any f hf _).mono ?_; rintro e' w1 ⟨rfl, hb1⟩; replace b1 := b1.below hb1 b1.lt; replace b2 := b2.below hb1 b2.lt; replace h0 := grown_below h0 hb1 h0.size; clear hb1) | (refine wpList_store_row rfl 89 _ _ rfl _ rfl (Row.new w1 89 _) rfl rfl table_one (by kernel_rfl) ?_; rw [setRow_new]))
    change Code.wp _ _ _ _ (w1.alloc (.cells tableF 89))
    have cT : (w1.alloc (.cells tableF 89)).cell? ⟨w1.heap.size, 1, none⟩ = some (.func (.func 55) #[] #[]) := (Row.new w1 89 tableF).cell 1
    replace b1 := b1.alloc (.cells tableF 89)
    replace b2 := b2.alloc (.cells tableF 89)
    replace h0 := h0.alloc h0.size (.cells tableF 89)
    generalize w1.alloc (.cells tableF 89) = w2 at *
    generalize w1.heap.size = gT at *
    have cT2 := fun d os => cell_regrown cT d os
    clear hf ho cT
    refine wp_region_tail 5 (by kernel_rfl) (by kernel_rfl) ?_
    simp only [List.take_succ_cons, List.take_zero, List.drop_succ_cons, List.drop_zero]
    repeat (first | (refine wpQuiet_load_fr rfl 33 28 _ rfl _ rfl b1 Tryd.underlying33 (by kernel_rfl) ?_) | quiet_step (exact Calls.regrown_of (HG.out _ (grown_below h0 (below_regrown _ _ _) h0.size))))
    refine wpQuiet_nil ?_
    intro w3 hb1
    replace b2 := b2.below hb1 b2.lt
    replace h0 := grown_below h0 hb1 h0.size
    clear hcall hb1
    go_wp2_with (refine wpList_store_fr rfl 33 _ _ rfl _ rfl b2 rfl (by kernel_rfl) ?_)
    exact bodyPost_ret_fr2 (p := 4) (u := 5) (ty := 33) (e := 28) rfl rfl (b2.setRow _) Tryd.underlying33 (by kernel_rfl) rfl ⟨by rw [ha, hv]; rfl, below_setRow h0 (by omega) _⟩
set_option maxHeartbeats 1000000 in
theorem change_flipped (f r : Nat → Nat) (hf : ∀ k, f k < 65536)
    (w : World)
    (hg : okF f = true → ∀ w1, Below w.heap.size w w1 → Calls Tryd.prog 56 #[.agg (FC f)] w1 fun e' w' => e' = .returned (.agg (FC r)) ∧ Below w1.heap.size w1 w') :
    Calls Tryd.prog 39 #[.agg (FC f), .int .i64 2] w fun e' w' => e' = .returned (.tuple #[.agg (FC (ifC (okC f) r)), .int .i64 (okC f)]) ∧ Below w.heap.size w w' := by
  have b1 := (Blk.new w 33 f).alloc (.cells (FC zeroF) 33)
  have b2 := Blk.new (w.alloc (.cells (FC f) 33)) 33 zeroF
  rw [World.size_alloc] at b2
  have h0 := ((Below.refl w.heap.size w).alloc (Nat.le_refl _) (.cells (FC f) 33)).alloc (by simp) (.cells (FC zeroF) 33)
  rw [FC_zero] at b1 b2 h0
  have hcall : ∀ w, (callFunc 56 #[.agg (FC f)]).run Tryd.prog w = .ok (.enter 56 #[.agg (FC f)]) w := fun _ => by kernel_rfl
  rcases okC_cases f with ⟨ho, ha⟩ | ⟨ho, ha⟩
  · clear hg hcall
    have hv : ifC 1 r = zeroF := by simp [ifC]
    go_enter Tryd.func39, Tryd.ntmps39
    go_wp2_with (first | (refine wpList_load_fr rfl 33 28 _ rfl _ rfl b1 Tryd.underlying33 (by kernel_rfl) ?_) | (go_at_call 34; refine (valid_any f hf _).mono ?_; rintro e' w1 ⟨rfl, hb1⟩; replace b1 := b1.below hb1 b1.lt; replace b2 := b2.below hb1 b2.lt; replace h0 := grown_below h0 hb1 h0.size; clear hb1) | (refine wpList_store_fr (f := zeroF) rfl 33 _ _ rfl _ rfl b2 rfl (by kernel_rfl) ?_))
    exact bodyPost_ret_fr2 (p := 4) (u := 5) (ty := 33) (e := 28) rfl rfl (b2.setRow _) Tryd.underlying33 (by kernel_rfl) rfl ⟨by rw [ha, hv]; rfl, below_setRow h0 (by omega) _⟩
  · have hv : ifC 0 r = r := by simp [ifC]
    have HG := Lib.hid (hg ho)
    clear hg
    go_enter Tryd.func39, Tryd.ntmps39
    go_wp2_with (first | (refine wpList_load_fr rfl 33 28 _ rfl _ rfl b1 Tryd.underlying33 (by kernel_rfl) ?_) | (go_at_call 34; refine (valid_any f hf _).mono ?_; rintro e' w1 ⟨rfl, hb1⟩; replace b1 := b1.below hb1 b1.lt; replace b2 := b2.below hb1 b2.lt; replace h0 := grown_below h0 hb1 h0.size; clear hb1) | (refine wpList_store_row rfl 89 _ _ rfl _ rfl (Row.new w1 89 _) rfl rfl table_one (by kernel_rfl) ?_; rw [setRow_new]))
    change Code.wp _ _ _ _ (w1.alloc (.cells tableF 89))
    have cT : (w1.alloc (.cells tableF 89)).cell? ⟨w1.heap.size, 2, none⟩ = some (.func (.func 56) #[] #[]) := (Row.new w1 89 tableF).cell 2
    replace b1 := b1.alloc (.cells tableF 89)
    replace b2 := b2.alloc (.cells tableF 89)
    replace h0 := h0.alloc h0.size (.cells tableF 89)
    generalize w1.alloc (.cells tableF 89) = w2 at *
    generalize w1.heap.size = gT at *
    have cT2 := fun d os => cell_regrown cT d os
    clear hf ho cT
    refine wp_region_tail 5 (by kernel_rfl) (by kernel_rfl) ?_
    simp only [List.take_succ_cons, List.take_zero, List.drop_succ_cons, List.drop_zero]
    repeat (first | (refine wpQuiet_load_fr rfl 33 28 _ rfl _ rfl b1 Tryd.underlying33 (by kernel_rfl) ?_) | quiet_step (exact Calls.regrown_of (HG.out _ (grown_below h0 (below_regrown _ _ _) h0.size))))
    refine wpQuiet_nil ?_
    intro w3 hb1
    replace b2 := b2.below hb1 b2.lt
    replace h0 := grown_below h0 hb1 h0.size
    clear hcall hb1
    go_wp2_with (refine wpList_store_fr rfl 33 _ _ rfl _ rfl b2 rfl (by kernel_rfl) ?_)
    exact bodyPost_ret_fr2 (p := 4) (u := 5) (ty := 33) (e := 28) rfl rfl (b2.setRow _) Tryd.underlying33 (by kernel_rfl) rfl ⟨by rw [ha, hv]; rfl, below_setRow h0 (by omega) _⟩
set_option maxHeartbeats 1000000 in
theorem change_inverted (f r : Nat → Nat) (hf : ∀ k, f k < 65536)
    (w : World)
    (hg : okF f = true → ∀ w1, Below w.heap.size w w1 → Calls Tryd.prog 50 #[.agg (FC f)] w1 fun e' w' => e' = .returned (.agg (FC r)) ∧ Below w1.heap.size w1 w') :
    Calls Tryd.prog 39 #[.agg (FC f), .int .i64 3] w fun e' w' => e' = .returned (.tuple #[.agg (FC (ifC (okC f) r)), .int .i64 (okC f)]) ∧ Below w.heap.size w w' := by
  have b1 := (Blk.new w 33 f).alloc (.cells (FC zeroF) 33)
  have b2 := Blk.new (w.alloc (.cells (FC f) 33)) 33 zeroF
  rw [World.size_alloc] at b2
  have h0 := ((Below.refl w.heap.size w).alloc (Nat.le_refl _) (.cells (FC f) 33)).alloc (by simp) (.cells (FC zeroF) 33)
  rw [FC_zero] at b1 b2 h0
  have hcall : ∀ w, (callFunc 50 #[.agg (FC f)]).run Tryd.prog w = .ok (.enter 50 #[.agg (FC f)]) w := fun _ => by kernel_rfl
  rcases okC_cases f with ⟨ho, ha⟩ | ⟨ho, ha⟩
  · clear hg hcall
    have hv : ifC 1 r = zeroF := by simp [ifC]
    go_enter Tryd.func39, Tryd.ntmps39
    go_wp2_with (first | (refine wpList_load_fr rfl 33 28 _ rfl _ rfl b1 Tryd.underlying33 (by kernel_rfl) ?_) | (go_at_call 34; refine (valid_any f hf _).mono ?_; rintro e' w1 ⟨rfl, hb1⟩; replace b1 := b1.below hb1 b1.lt; replace b2 := b2.below hb1 b2.lt; replace h0 := grown_below h0 hb1 h0.size; clear hb1) | (refine wpList_store_fr (f := zeroF) rfl 33 _ _ rfl _ rfl b2 rfl (by kernel_rfl) ?_))
    exact bodyPost_ret_fr2 (p := 4) (u := 5) (ty := 33) (e := 28) rfl rfl (b2.setRow _) Tryd.underlying33 (by kernel_rfl) rfl ⟨by rw [ha, hv]; rfl, below_setRow h0 (by omega) _⟩
  · have hv : ifC 0 r = r := by simp [ifC]
    have HG := Lib.hid (hg ho)
    clear hg
    go_enter Tryd.func39, Tryd.ntmps39
    go_wp2_with (first | (refine wpList_load_fr rfl 33 28 _ rfl _ rfl b1 Tryd.underlying33 (by kernel_rfl) ?_) | (go_at_call 34; refine (valid_any f hf _).mono ?_; rintro e' w1 ⟨rfl, hb1⟩; replace b1 := b1.below hb1 b1.lt; replace b2 := b2.below hb1 b2.lt; replace h0 := grown_below h0 hb1 h0.size; clear hb1) | (refine wpList_store_row rfl 89 _ _ rfl _ rfl (Row.new w1 89 _) rfl rfl table_one (by kernel_rfl) ?_; rw [setRow_new]))
    change Code.wp _ _ _ _ (w1.alloc (.cells tableF 89))
    have cT : (w1.alloc (.cells tableF 89)).cell? ⟨w1.heap.size, 3, none⟩ = some (.func (.func 50) #[] #[]) := (Row.new w1 89 tableF).cell 3
    replace b1 := b1.alloc (.cells tableF 89)
    replace b2 := b2.alloc (.cells tableF 89)
    replace h0 := h0.alloc h0.size (.cells tableF 89)
    generalize w1.alloc (.cells tableF 89) = w2 at *
    generalize w1.heap.size = gT at *
    have cT2 := fun d os => cell_regrown cT d os
    clear hf ho cT
    refine wp_region_tail 5 (by kernel_rfl) (by kernel_rfl) ?_
    simp only [List.take_succ_cons, List.take_zero, List.drop_succ_cons, List.drop_zero]
    repeat (first | (refine wpQuiet_load_fr rfl 33 28 _ rfl _ rfl b1 Tryd.underlying33 (by kernel_rfl) ?_) | quiet_step (exact Calls.regrown_of (HG.out _ (grown_below h0 (below_regrown _ _ _) h0.size))))
    refine wpQuiet_nil ?_
    intro w3 hb1
    replace b2 := b2.below hb1 b2.lt
    replace h0 := grown_below h0 hb1 h0.size
    clear hcall hb1
    go_wp2_with (refine wpList_store_fr rfl 33 _ _ rfl _ rfl b2 rfl (by kernel_rfl) ?_)
    exact bodyPost_ret_fr2 (p := 4) (u := 5) (ty := 33) (e := 28) rfl rfl (b2.setRow _) Tryd.underlying33 (by kernel_rfl) rfl ⟨by rw [ha, hv]; rfl, below_setRow h0 (by omega) _⟩
set_option maxHeartbeats 1000000 in
theorem change_grown (f r : Nat → Nat) (hf : ∀ k, f k < 65536)
    (w : World)
    (hg : okF f = true → ∀ w1, Below w.heap.size w w1 → Calls Tryd.prog 57 #[.agg (FC f)] w1 fun e' w' => e' = .returned (.agg (FC r)) ∧ Below w1.heap.size w1 w') :
    Calls Tryd.prog 39 #[.agg (FC f), .int .i64 4] w fun e' w' => e' = .returned (.tuple #[.agg (FC (ifC (okC f) r)), .int .i64 (okC f)]) ∧ Below w.heap.size w w' := by
  have b1 := (Blk.new w 33 f).alloc (.cells (FC zeroF) 33)
  have b2 := Blk.new (w.alloc (.cells (FC f) 33)) 33 zeroF
  rw [World.size_alloc] at b2
  have h0 := ((Below.refl w.heap.size w).alloc (Nat.le_refl _) (.cells (FC f) 33)).alloc (by simp) (.cells (FC zeroF) 33)
  rw [FC_zero] at b1 b2 h0
  have hcall : ∀ w, (callFunc 57 #[.agg (FC f)]).run Tryd.prog w = .ok (.enter 57 #[.agg (FC f)]) w := fun _ => by kernel_rfl
  rcases okC_cases f with ⟨ho, ha⟩ | ⟨ho, ha⟩
  · clear hg hcall
    have hv : ifC 1 r = zeroF := by simp [ifC]
    go_enter Tryd.func39, Tryd.ntmps39
    go_wp2_with (first | (refine wpList_load_fr rfl 33 28 _ rfl _ rfl b1 Tryd.underlying33 (by kernel_rfl) ?_) | (go_at_call 34; refine (valid_any f hf _).mono ?_; rintro e' w1 ⟨rfl, hb1⟩; replace b1 := b1.below hb1 b1.lt; replace b2 := b2.below hb1 b2.lt; replace h0 := grown_below h0 hb1 h0.size; clear hb1) | (refine wpList_store_fr (f := zeroF) rfl 33 _ _ rfl _ rfl b2 rfl (by kernel_rfl) ?_))
    exact bodyPost_ret_fr2 (p := 4) (u := 5) (ty := 33) (e := 28) rfl rfl (b2.setRow _) Tryd.underlying33 (by kernel_rfl) rfl ⟨by rw [ha, hv]; rfl, below_setRow h0 (by omega) _⟩
  · have hv : ifC 0 r = r := by simp [ifC]
    have HG := Lib.hid (hg ho)
    clear hg
    go_enter Tryd.func39, Tryd.ntmps39
    go_wp2_with (first | (refine wpList_load_fr rfl 33 28 _ rfl _ rfl b1 Tryd.underlying33 (by kernel_rfl) ?_) | (go_at_call 34; refine (valid_any f hf _).mono ?_; rintro e' w1 ⟨rfl, hb1⟩; replace b1 := b1.below hb1 b1.lt; replace b2 := b2.below hb1 b2.lt; replace h0 := grown_below h0 hb1 h0.size; clear hb1) | (refine wpList_store_row rfl 89 _ _ rfl _ rfl (Row.new w1 89 _) rfl rfl table_one (by kernel_rfl) ?_; rw [setRow_new]))
    change Code.wp _ _ _ _ (w1.alloc (.cells tableF 89))
    have cT : (w1.alloc (.cells tableF 89)).cell? ⟨w1.heap.size, 4, none⟩ = some (.func (.func 57) #[] #[]) := (Row.new w1 89 tableF).cell 4
    replace b1 := b1.alloc (.cells tableF 89)
    replace b2 := b2.alloc (.cells tableF 89)
    replace h0 := h0.alloc h0.size (.cells tableF 89)
    generalize w1.alloc (.cells tableF 89) = w2 at *
    generalize w1.heap.size = gT at *
    have cT2 := fun d os => cell_regrown cT d os
    clear hf ho cT
    refine wp_region_tail 5 (by kernel_rfl) (by kernel_rfl) ?_
    simp only [List.take_succ_cons, List.take_zero, List.drop_succ_cons, List.drop_zero]
    repeat (first | (refine wpQuiet_load_fr rfl 33 28 _ rfl _ rfl b1 Tryd.underlying33 (by kernel_rfl) ?_) | quiet_step (exact Calls.regrown_of (HG.out _ (grown_below h0 (below_regrown _ _ _) h0.size))))
    refine wpQuiet_nil ?_
    intro w3 hb1
    replace b2 := b2.below hb1 b2.lt
    replace h0 := grown_below h0 hb1 h0.size
    clear hcall hb1
    go_wp2_with (refine wpList_store_fr rfl 33 _ _ rfl _ rfl b2 rfl (by kernel_rfl) ?_)
    exact bodyPost_ret_fr2 (p := 4) (u := 5) (ty := 33) (e := 28) rfl rfl (b2.setRow _) Tryd.underlying33 (by kernel_rfl) rfl ⟨by rw [ha, hv]; rfl, below_setRow h0 (by omega) _⟩
set_option maxHeartbeats 1000000 in
theorem change_shrunk (f r : Nat → Nat) (hf : ∀ k, f k < 65536)
    (w : World)
    (hg : okF f = true → ∀ w1, Below w.heap.size w w1 → Calls Tryd.prog 58 #[.agg (FC f)] w1 fun e' w' => e' = .returned (.agg (FC r)) ∧ Below w1.heap.size w1 w') :
    Calls Tryd.prog 39 #[.agg (FC f), .int .i64 5] w fun e' w' => e' = .returned (.tuple #[.agg (FC (ifC (okC f) r)), .int .i64 (okC f)]) ∧ Below w.heap.size w w' := by
  have b1 := (Blk.new w 33 f).alloc (.cells (FC zeroF) 33)
  have b2 := Blk.new (w.alloc (.cells (FC f) 33)) 33 zeroF
  rw [World.size_alloc] at b2
  have h0 := ((Below.refl w.heap.size w).alloc (Nat.le_refl _) (.cells (FC f) 33)).alloc (by simp) (.cells (FC zeroF) 33)
  rw [FC_zero] at b1 b2 h0
  have hcall : ∀ w, (callFunc 58 #[.agg (FC f)]).run Tryd.prog w = .ok (.enter 58 #[.agg (FC f)]) w := fun _ => by kernel_rfl
  rcases okC_cases f with ⟨ho, ha⟩ | ⟨ho, ha⟩
  · clear hg hcall
    have hv : ifC 1 r = zeroF := by simp [ifC]
    go_enter Tryd.func39, Tryd.ntmps39
    go_wp2_with (first | (refine wpList_load_fr rfl 33 28 _ rfl _ rfl b1 Tryd.underlying33 (by kernel_rfl) ?_) | (go_at_call 34; refine (valid_any f hf _).mono ?_; rintro e' w1 ⟨rfl, hb1⟩; replace b1 := b1.below hb1 b1.lt; replace b2 := b2.below hb1 b2.lt; replace h0 := grown_below h0 hb1 h0.size; clear hb1) | (refine wpList_store_fr (f := zeroF) rfl 33 _ _ rfl _ rfl b2 rfl (by kernel_rfl) ?_))
    exact bodyPost_ret_fr2 (p := 4) (u := 5) (ty := 33) (e := 28) rfl rfl (b2.setRow _) Tryd.underlying33 (by kernel_rfl) rfl ⟨by rw [ha, hv]; rfl, below_setRow h0 (by omega) _⟩
  · have hv : ifC 0 r = r := by simp [ifC]
    have HG := Lib.hid (hg ho)
    clear hg
    go_enter Tryd.func39, Tryd.ntmps39
    go_wp2_with (first | (refine wpList_load_fr rfl 33 28 _ rfl _ rfl b1 Tryd.underlying33 (by kernel_rfl) ?_) | (go_at_call 34; refine (valid_any f hf _).mono ?_; rintro e' w1 ⟨rfl, hb1⟩; replace b1 := b1.below hb1 b1.lt; replace b2 := b2.below hb1 b2.lt; replace h0 := grown_below h0 hb1 h0.size; clear hb1) | (refine wpList_store_row rfl 89 _ _ rfl _ rfl (Row.new w1 89 _) rfl rfl table_one (by kernel_rfl) ?_; rw [setRow_new]))
    change Code.wp _ _ _ _ (w1.alloc (.cells tableF 89))
    have cT : (w1.alloc (.cells tableF 89)).cell? ⟨w1.heap.size, 5, none⟩ = some (.func (.func 58) #[] #[]) := (Row.new w1 89 tableF).cell 5
    replace b1 := b1.alloc (.cells tableF 89)
    replace b2 := b2.alloc (.cells tableF 89)
    replace h0 := h0.alloc h0.size (.cells tableF 89)
    generalize w1.alloc (.cells tableF 89) = w2 at *
    generalize w1.heap.size = gT at *
    have cT2 := fun d os => cell_regrown cT d os
    clear hf ho cT
    refine wp_region_tail 5 (by kernel_rfl) (by kernel_rfl) ?_
    simp only [List.take_succ_cons, List.take_zero, List.drop_succ_cons, List.drop_zero]
    repeat (first | (refine wpQuiet_load_fr rfl 33 28 _ rfl _ rfl b1 Tryd.underlying33 (by kernel_rfl) ?_) | quiet_step (exact Calls.regrown_of (HG.out _ (grown_below h0 (below_regrown _ _ _) h0.size))))
    refine wpQuiet_nil ?_
    intro w3 hb1
    replace b2 := b2.below hb1 b2.lt
    replace h0 := grown_below h0 hb1 h0.size
    clear hcall hb1
    go_wp2_with (refine wpList_store_fr rfl 33 _ _ rfl _ rfl b2 rfl (by kernel_rfl) ?_)
    exact bodyPost_ret_fr2 (p := 4) (u := 5) (ty := 33) (e := 28) rfl rfl (b2.setRow _) Tryd.underlying33 (by kernel_rfl) rfl ⟨by rw [ha, hv]; rfl, below_setRow h0 (by omega) _⟩
end Go.Proofs.YtennmnkjdchbhacDoor
