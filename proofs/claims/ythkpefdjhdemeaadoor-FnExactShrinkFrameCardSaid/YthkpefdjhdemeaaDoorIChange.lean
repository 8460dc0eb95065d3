/- impl: changeBy, at each index of its table. -/
import Derived.Test.YthkpefdjhdemeaaDoorRows
import Derived.Test.YthkpefdjhdemeaaDoorIValid
import Derived.Test.YthkpefdjhdemeaaDoorSInvert
namespace Go.Proofs.YthkpefdjhdemeaaDoor
set_option maxRecDepth 100000
open Go.RowKit
set_option linter.unusedVariables false
def tableF : Array Value := #[.func (.func 106) #[] #[], .func (.func 107) #[] #[], .func (.func 108) #[] #[], .func (.func 86) #[] #[], .func (.func 109) #[] #[], .func (.func 110) #[] #[]]
theorem table_one : ∀ v ∈ (tableF).toList, v.oneCell' = true := by
  simp [tableF, Value.oneCell']
set_option maxHeartbeats 1000000 in
theorem change_turned (f r : Nat → Nat) (hf : ∀ k, f k < 65536)
    (w : World)
    (hg : okF f = true → ∀ w1, Below w.heap.size w w1 → Calls Tryd.prog 106 #[.agg (FC f)] w1 fun e' w' => e' = .returned (.agg (FC r)) ∧ Below w1.heap.size w1 w') :
    Calls Tryd.prog 69 #[.agg (FC f), .int .i64 0] w fun e' w' => e' = .returned (.tuple #[.agg (FC (ifC (okC f) r)), .int .i64 (okC f)]) ∧ Below w.heap.size w w' := by
  have b1 := (Blk.new w 27 f).alloc (.cells (FC zeroF) 27)
  have b2 := Blk.new (w.alloc (.cells (FC f) 27)) 27 zeroF
  rw [World.size_alloc] at b2
  have h0 := ((Below.refl w.heap.size w).alloc (Nat.le_refl _) (.cells (FC f) 27)).alloc (by simp) (.cells (FC zeroF) 27)
  rw [FC_zero] at b1 b2 h0
  have hcall : ∀ w, (callFunc 106 #[.agg (FC f)]).run Tryd.prog w = .ok (.enter 106 #[.agg (FC f)]) w := fun _ => by kernel_rfl
  rcases okC_cases f with ⟨ho, ha⟩ | ⟨ho, ha⟩
  · clear hg hcall
    have hv : ifC 1 r = zeroF := by simp [ifC]
    go_enter Tryd.func69, Tryd.ntmps69
    go_wp2_with (first | (refine wpList_load_fr rfl 27 22 _ rfl _ rfl b1 Tryd.underlying27 (by kernel_rfl) ?_) | (go_at_call 45; refine (valid_any f hf _).mono ?_; rintro e' w1 ⟨rfl, hb1⟩; replace b1 := b1.below hb1 b1.lt; replace b2 := b2.below hb1 b2.lt; replace h0 := grown_below h0 hb1 h0.size; clear hb1) | (refine wpList_store_fr (f := zeroF) rfl 27 _ _ rfl _ rfl b2 rfl (by kernel_rfl) ?_))
    exact bodyPost_ret_fr2 (p := 4) (u := 5) (ty := 27) (e := 22) rfl rfl (b2.setRow _) Tryd.underlying27 (by kernel_rfl) rfl ⟨by rw [ha, hv]; rfl, below_setRow h0 (by omega) _⟩
  · have hv : ifC 0 r = r := by simp [ifC]
    have HG := Lib.hid (hg ho)
    clear hg
    go_enter Tryd.func69, Tryd.ntmps69
    go_wp2_with (first | (refine wpList_load_fr rfl 27 22 _ rfl _ rfl b1 Tryd.underlying27 (by kernel_rfl) ?_) | (go_at_call 45; refine (valid_any f hf _).mono ?_; rintro e' w1 ⟨rfl, hb1⟩; replace b1 := b1.below hb1 b1.lt; replace b2 := b2.below hb1 b2.lt; replace h0 := grown_below h0 hb1 h0.size; clear hb1) | (refine wpList_store_row rfl 116 _ _ rfl _ rfl (Row.new w1 116 _) rfl rfl table_one (by kernel_rfl) ?_; rw [setRow_new]))
    change Code.wp _ _ _ _ (w1.alloc (.cells tableF 116))
    have cT : (w1.alloc (.cells tableF 116)).cell? ⟨w1.heap.size, 0, none⟩ = some (.func (.func 106) #[] #[]) := (Row.new w1 116 tableF).cell 0
    replace b1 := b1.alloc (.cells tableF 116)
    replace b2 := b2.alloc (.cells tableF 116)
    replace h0 := h0.alloc h0.size (.cells tableF 116)
    generalize w1.alloc (.cells tableF 116) = w2 at *
    generalize w1.heap.size = gT at *
    have cT2 := fun d os => cell_regrown cT d os
    clear hf ho cT
    refine wp_region_tail 5 (by kernel_rfl) (by kernel_rfl) ?_
    simp only [List.take_succ_cons, List.take_zero, List.drop_succ_cons, List.drop_zero]
    repeat (first | (refine wpQuiet_load_fr rfl 27 22 _ rfl _ rfl b1 Tryd.underlying27 (by kernel_rfl) ?_) | quiet_step (exact Calls.regrown_of (HG.out _ (grown_below h0 (below_regrown _ _ _) h0.size))))
    refine wpQuiet_nil ?_
    intro w3 hb1
    replace b2 := b2.below hb1 b2.lt
    replace h0 := grown_below h0 hb1 h0.size
    clear hcall hb1
    go_wp2_with (refine wpList_store_fr rfl 27 _ _ rfl _ rfl b2 rfl (by kernel_rfl) ?_)
    exact bodyPost_ret_fr2 (p := 4) (u := 5) (ty := 27) (e := 22) rfl rfl (b2.setRow _) Tryd.underlying27 (by kernel_rfl) rfl ⟨by rw [ha, hv]; rfl, below_setRow h0 (by omega) _⟩
set_option maxHeartbeats 1000000 in
theorem change_mirrored (f r : Nat → Nat) (hf : ∀ k, f k < 65536)
    (w : World)
    (hg : okF f = true → ∀ w1, Below w.heap.size w w1 → Calls Tryd.prog 107 #[.agg (FC f)] w1 fun e' w' => e' = .returned (.agg (FC r)) ∧ Below w1.heap.size w1 w') :
    Calls Tryd.prog 69 #[.agg (FC f), .int .i64 1] w fun e' w' => e' = .returned (.tuple #[.agg (FC (ifC (okC f) r)), .int .i64 (okC f)]) ∧ Below w.heap.size w w' := by
  have b1 := (Blk.new w 27 f).alloc (.cells (FC zeroF) 27)
  have b2 := Blk.new (w.alloc (.cells (FC f) 27)) 27 zeroF
  rw [World.size_alloc] at b2
  have h0 := ((Below.refl w.heap.size w).alloc (Nat.le_refl _) (.cells (FC f) 27)).alloc (by simp) (.cells (FC zeroF) 27)
  rw [FC_zero] at b1 b2 h0
  have hcall : ∀ w, (callFunc 107 #[.agg (FC f)]).run Tryd.prog w = .ok (.enter 107 #[.agg (FC f)]) w := fun _ => by kernel_rfl
  rcases okC_cases f with ⟨ho, ha⟩ | ⟨ho, ha⟩
  · clear hg hcall
    have hv : ifC 1 r = zeroF := by simp [ifC]
    go_enter Tryd.func69, Tryd.ntmps69
    go_wp2_with (first | (refine wpList_load_fr rfl 27 22 _ rfl _ rfl b1 Tryd.underlying27 (by kernel_rfl) ?_) | (go_at_call 45; refine (valid_any f hf _).mono ?_; rintro e' w1 ⟨rfl, hb1⟩; replace b1 := b1.below hb1 b1.lt; replace b2 := b2.below hb1 b2.lt; replace h0 := grown_below h0 hb1 h0.size; clear hb1) | (refine wpList_store_fr (f := zeroF) rfl 27 _ _ rfl _ rfl b2 rfl (by kernel_rfl) ?_))
    exact bodyPost_ret_fr2 (p := 4) (u := 5) (ty := 27) (e := 22) rfl rfl (b2.setRow _) Tryd.underlying27 (by kernel_rfl) rfl ⟨by rw [ha, hv]; rfl, below_setRow h0 (by omega) _⟩
  · have hv : ifC 0 r = r := by simp [ifC]
    have HG := Lib.hid (hg ho)
    clear hg
    go_enter Tryd.func69, Tryd.ntmps69
    go_wp2_with (first | (refine wpList_load_fr rfl 27 22 _ rfl _ rfl b1 Tryd.underlying27 (by kernel_rfl) ?_) | (go_at_call 45; refine (valid_any f hf _).mono ?_; rintro e' w1 ⟨rfl, hb1⟩; replace b1 := b1.below hb1 b1.lt; replace b2 := b2.below hb1 b2.lt; replace h0 := grown_below h0 hb1 h0.size; clear hb1) | (refine wpList_store_row rfl 116 _ _ rfl _ rfl (Row.new w1 116 _) rfl rfl table_one (by kernel_rfl) ?_; rw [setRow_new]))
    change Code.wp _ _ _ _ (w1.alloc (.cells tableF 116))
    have cT : (w1.alloc (.cells tableF 116)).cell? ⟨w1.heap.size, 1, none⟩ = some (.func (.func 107) #[] #[]) := (Row.new w1 116 tableF).cell 1
    replace b1 := b1.alloc (.cells tableF 116)
    replace b2 := b2.alloc (.cells tableF 116)
    replace h0 := h0.alloc h0.size (.cells tableF 116)
    generalize w1.alloc (.cells tableF 116) = w2 at *
    generalize w1.heap.size = gT at *
    have cT2 := fun d os => cell_regrown cT d os
    clear hf ho cT
    refine wp_region_tail 5 (by kernel_rfl) (by kernel_rfl) ?_
    simp only [List.take_succ_cons, List.take_zero, List.drop_succ_cons, List.drop_zero]
    repeat (first | (refine wpQuiet_load_fr rfl 27 22 _ rfl _ rfl b1 Tryd.underlying27 (by kernel_rfl) ?_) | quiet_step (exact Calls.regrown_of (HG.out _ (grown_below h0 (below_regrown _ _ _) h0.size))))
    refine wpQuiet_nil ?_
    intro w3 hb1
    replace b2 := b2.below hb1 b2.lt
    replace h0 := grown_below h0 hb1 h0.size
    clear hcall hb1
    go_wp2_with (refine wpList_store_fr rfl 27 _ _ rfl _ rfl b2 rfl (by kernel_rfl) ?_)
    exact bodyPost_ret_fr2 (p := 4) (u := 5) (ty := 27) (e := 22) rfl rfl (b2.setRow _) Tryd.underlying27 (by kernel_rfl) rfl ⟨by rw [ha, hv]; rfl, below_setRow h0 (by omega) _⟩
set_option maxHeartbeats 1000000 in
theorem change_flipped (f r : Nat → Nat) (hf : ∀ k, f k < 65536)
    (w : World)
    (hg : okF f = true → ∀ w1, Below w.heap.size w w1 → Calls Tryd.prog 108 #[.agg (FC f)] w1 fun e' w' => e' = .returned (.agg (FC r)) ∧ Below w1.heap.size w1 w') :
    Calls Tryd.prog 69 #[.agg (FC f), .int .i64 2] w fun e' w' => e' = .returned (.tuple #[.agg (FC (ifC (okC f) r)), .int .i64 (okC f)]) ∧ Below w.heap.size w w' := by
  have b1 := (Blk.new w 27 f).alloc (.cells (FC zeroF) 27)
  have b2 := Blk.new (w.alloc (.cells (FC f) 27)) 27 zeroF
  rw [World.size_alloc] at b2
  have h0 := ((Below.refl w.heap.size w).alloc (Nat.le_refl _) (.cells (FC f) 27)).alloc (by simp) (.cells (FC zeroF) 27)
  rw [FC_zero] at b1 b2 h0
  have hcall : ∀ w, (callFunc 108 #[.agg (FC f)]).run Tryd.prog w = .ok (.enter 108 #[.agg (FC f)]) w := fun _ => by kernel_rfl
  rcases okC_cases f with ⟨ho, ha⟩ | ⟨ho, ha⟩
  · clear hg hcall
    have hv : ifC 1 r = zeroF := by simp [ifC]
    go_enter Tryd.func69, Tryd.ntmps69
    go_wp2_with (first | (refine wpList_load_fr rfl 27 22 _ rfl _ rfl b1 Tryd.underlying27 (by kernel_rfl) ?_) | (go_at_call 45; refine (valid_any f hf _).mono ?_; rintro e' w1 ⟨rfl, hb1⟩; replace b1 := b1.below hb1 b1.lt; replace b2 := b2.below hb1 b2.lt; replace h0 := grown_below h0 hb1 h0.size; clear hb1) | (refine wpList_store_fr (f := zeroF) rfl 27 _ _ rfl _ rfl b2 rfl (by kernel_rfl) ?_))
    exact bodyPost_ret_fr2 (p := 4) (u := 5) (ty := 27) (e := 22) rfl rfl (b2.setRow _) Tryd.underlying27 (by kernel_rfl) rfl ⟨by rw [ha, hv]; rfl, below_setRow h0 (by omega) _⟩
  · have hv : ifC 0 r = r := by simp [ifC]
    have HG := Lib.hid (hg ho)
    clear hg
    go_enter Tryd.func69, Tryd.ntmps69
    go_wp2_with (first | (refine wpList_load_fr rfl 27 22 _ rfl _ rfl b1 Tryd.underlying27 (by kernel_rfl) ?_) | (go_at_call 45; refine (valid_any f hf _).mono ?_; rintro e' w1 ⟨rfl, hb1⟩; replace b1 := b1.below hb1 b1.lt; replace b2 := b2.below hb1 b2.lt; replace h0 := grown_below h0 hb1 h0.size; clear hb1) | (refine wpList_store_row rfl 116 _ _ rfl _ rfl (Row.new w1 116 _) rfl rfl table_one (by kernel_rfl) ?_; rw [setRow_new]))
    change Code.wp _ _ _ _ (w1.alloc (.cells tableF 116))
    have cT : (w1.alloc (.cells tableF 116)).cell? ⟨w1.heap.size, 2, none⟩ = some (.func (.func 108) #[] #[]) := (Row.new w1 116 tableF).cell 2
    replace b1 := b1.alloc (.cells tableF 116)
    replace b2 := b2.alloc (.cells tableF 116)
    replace h0 := h0.alloc h0.size (.cells tableF 116)
    generalize w1.alloc (.cells tableF 116) = w2 at *
    generalize w1.heap.size = gT at *
    have cT2 := fun d os => cell_regrown cT d os
    clear hf ho cT
    refine wp_region_tail 5 (by kernel_rfl) (by kernel_rfl) ?_
    simp only [List.take_succ_cons, List.take_zero, List.drop_succ_cons, List.drop_zero]
    repeat (first | (refine wpQuiet_load_fr rfl 27 22 _ rfl _ rfl b1 Tryd.underlying27 (by kernel_rfl) ?_) | quiet_step (exact Calls.regrown_of (HG.out _ (grown_below h0 (below_regrown _ _ _) h0.size))))
    refine wpQuiet_nil ?_
    intro w3 hb1
    replace b2 := b2.below hb1 b2.lt
    replace h0 := grown_below h0 hb1 h0.size
    clear hcall hb1
    go_wp2_with (refine wpList_store_fr rfl 27 _ _ rfl _ rfl b2 rfl (by kernel_rfl) ?_)
    exact bodyPost_ret_fr2 (p := 4) (u := 5) (ty := 27) (e := 22) rfl rfl (b2.setRow _) Tryd.underlying27 (by kernel_rfl) rfl ⟨by rw [ha, hv]; rfl, below_setRow h0 (by omega) _⟩
set_option maxHeartbeats 1000000 in
theorem change_inverted (f r : Nat → Nat) (hf : ∀ k, f k < 65536)
    (w : World)
    (hg : okF f = true → ∀ w1, Below w.heap.size w w1 → Calls Tryd.prog 86 #[.agg (FC f)] w1 fun e' w' => e' = .returned (.agg (FC r)) ∧ Below w1.heap.size w1 w') :
    Calls Tryd.prog 69 #[.agg (FC f), .int .i64 3] w fun e' w' => e' = .returned (.tuple #[.agg (FC (ifC (okC f) r)), .int .i64 (okC f)]) ∧ Below w.heap.size w w' := by
  have b1 := (Blk.new w 27 f).alloc (.cells (FC zeroF) 27)
  have b2 := Blk.new (w.alloc (.cells (FC f) 27)) 27 zeroF
  rw [World.size_alloc] at b2
  have h0 := ((Below.refl w.heap.size w).alloc (Nat.le_refl _) (.cells (FC f) 27)).alloc (by simp) (.cells (FC zeroF) 27)
  rw [FC_zero] at b1 b2 h0
  have hcall : ∀ w, (callFunc 86 #[.agg (FC f)]).run Tryd.prog w = .ok (.enter 86 #[.agg (FC f)]) w := fun _ => by kernel_rfl
  rcases okC_cases f with ⟨ho, ha⟩ | ⟨ho, ha⟩
  · clear hg hcall
    have hv : ifC 1 r = zeroF := by simp [ifC]
    go_enter Tryd.func69, Tryd.ntmps69
    go_wp2_with (first | (refine wpList_load_fr rfl 27 22 _ rfl _ rfl b1 Tryd.underlying27 (by kernel_rfl) ?_) | (go_at_call 45; refine (valid_any f hf _).mono ?_; rintro e' w1 ⟨rfl, hb1⟩; replace b1 := b1.below hb1 b1.lt; replace b2 := b2.below hb1 b2.lt; replace h0 := grown_below h0 hb1 h0.size; clear hb1) | (refine wpList_store_fr (f := zeroF) rfl 27 _ _ rfl _ rfl b2 rfl (by kernel_rfl) ?_))
    exact bodyPost_ret_fr2 (p := 4) (u := 5) (ty := 27) (e := 22) rfl rfl (b2.setRow _) Tryd.underlying27 (by kernel_rfl) rfl ⟨by rw [ha, hv]; rfl, below_setRow h0 (by omega) _⟩
  · have hv : ifC 0 r = r := by simp [ifC]
    have HG := Lib.hid (hg ho)
    clear hg
    go_enter Tryd.func69, Tryd.ntmps69
    go_wp2_with (first | (refine wpList_load_fr rfl 27 22 _ rfl _ rfl b1 Tryd.underlying27 (by kernel_rfl) ?_) | (go_at_call 45; refine (valid_any f hf _).mono ?_; rintro e' w1 ⟨rfl, hb1⟩; replace b1 := b1.below hb1 b1.lt; replace b2 := b2.below hb1 b2.lt; replace h0 := grown_below h0 hb1 h0.size; clear hb1) | (refine wpList_store_row rfl 116 _ _ rfl _ rfl (Row.new w1 116 _) rfl rfl table_one (by kernel_rfl) ?_; rw [setRow_new]))
    change Code.wp _ _ _ _ (w1.alloc (.cells tableF 116))
    have cT : (w1.alloc (.cells tableF 116)).cell? ⟨w1.heap.size, 3, none⟩ = some (.func (.func 86) #[] #[]) := (Row.new w1 116 tableF).cell 3
    replace b1 := b1.alloc (.cells tableF 116)
    replace b2 := b2.alloc (.cells tableF 116)
    replace h0 := h0.alloc h0.size (.cells tableF 116)
    generalize w1.alloc (.cells tableF 116) = w2 at *
    generalize w1.heap.size = gT at *
    have cT2 := fun d os => cell_regrown cT d os
    clear hf ho cT
    refine wp_region_tail 5 (by kernel_rfl) (by kernel_rfl) ?_
    simp only [List.take_succ_cons, List.take_zero, List.drop_succ_cons, List.drop_zero]
    repeat (first | (refine wpQuiet_load_fr rfl 27 22 _ rfl _ rfl b1 Tryd.underlying27 (by kernel_rfl) ?_) | quiet_step (exact Calls.regrown_of (HG.out _ (grown_below h0 (below_regrown _ _ _) h0.size))))
    refine wpQuiet_nil ?_
    intro w3 hb1
    replace b2 := b2.below hb1 b2.lt
    replace h0 := grown_below h0 hb1 h0.size
    clear hcall hb1
    go_wp2_with (refine wpList_store_fr rfl 27 _ _ rfl _ rfl b2 rfl (by kernel_rfl) ?_)
    exact bodyPost_ret_fr2 (p := 4) (u := 5) (ty := 27) (e := 22) rfl rfl (b2.setRow _) Tryd.underlying27 (by kernel_rfl) rfl ⟨by rw [ha, hv]; rfl, below_setRow h0 (by omega) _⟩
set_option maxHeartbeats 1000000 in
theorem change_grown (f r : Nat → Nat) (hf : ∀ k, f k < 65536)
    (w : World)
    (hg : okF f = true → ∀ w1, Below w.heap.size w w1 → Calls Tryd.prog 109 #[.agg (FC f)] w1 fun e' w' => e' = .returned (.agg (FC r)) ∧ Below w1.heap.size w1 w') :
    Calls Tryd.prog 69 #[.agg (FC f), .int .i64 4] w fun e' w' => e' = .returned (.tuple #[.agg (FC (ifC (okC f) r)), .int .i64 (okC f)]) ∧ Below w.heap.size w w' := by
  have b1 := (Blk.new w 27 f).alloc (.cells (FC zeroF) 27)
  have b2 := Blk.new (w.alloc (.cells (FC f) 27)) 27 zeroF
  rw [World.size_alloc] at b2
  have h0 := ((Below.refl w.heap.size w).alloc (Nat.le_refl _) (.cells (FC f) 27)).alloc (by simp) (.cells (FC zeroF) 27)
  rw [FC_zero] at b1 b2 h0
  have hcall : ∀ w, (callFunc 109 #[.agg (FC f)]).run Tryd.prog w = .ok (.enter 109 #[.agg (FC f)]) w := fun _ => by kernel_rfl
  rcases okC_cases f with ⟨ho, ha⟩ | ⟨ho, ha⟩
  · clear hg hcall
    have hv : ifC 1 r = zeroF := by simp [ifC]
    go_enter Tryd.func69, Tryd.ntmps69
    go_wp2_with (first | (refine wpList_load_fr rfl 27 22 _ rfl _ rfl b1 Tryd.underlying27 (by kernel_rfl) ?_) | (go_at_call 45; refine (valid_any f hf _).mono ?_; rintro e' w1 ⟨rfl, hb1⟩; replace b1 := b1.below hb1 b1.lt; replace b2 := b2.below hb1 b2.lt; replace h0 := grown_below h0 hb1 h0.size; clear hb1) | (refine wpList_store_fr (f := zeroF) rfl 27 _ _ rfl _ rfl b2 rfl (by kernel_rfl) ?_))
    exact bodyPost_ret_fr2 (p := 4) (u := 5) (ty := 27) (e := 22) rfl rfl (b2.setRow _) Tryd.underlying27 (by kernel_rfl) rfl ⟨by rw [ha, hv]; rfl, below_setRow h0 (by omega) _⟩
  · have hv : ifC 0 r = r := by simp [ifC]
    have HG := Lib.hid (hg ho)
    clear hg
    go_enter Tryd.func69, Tryd.ntmps69
    go_wp2_with (first | (refine wpList_load_fr rfl 27 22 _ rfl _ rfl b1 Tryd.underlying27 (by kernel_rfl) ?_) | (go_at_call 45; refine (valid_any f hf _).mono ?_; rintro e' w1 ⟨rfl, hb1⟩; replace b1 := b1.below hb1 b1.lt; replace b2 := b2.below hb1 b2.lt; replace h0 := grown_below h0 hb1 h0.size; clear hb1) | (refine wpList_store_row rfl 116 _ _ rfl _ rfl (Row.new w1 116 _) rfl rfl table_one (by kernel_rfl) ?_; rw [setRow_new]))
    change Code.wp _ _ _ _ (w1.alloc (.cells tableF 116))
    have cT : (w1.alloc (.cells tableF 116)).cell? ⟨w1.heap.size, 4, none⟩ = some (.func (.func 109) #[] #[]) := (Row.new w1 116 tableF).cell 4
    replace b1 := b1.alloc (.cells tableF 116)
    replace b2 := b2.alloc (.cells tableF 116)
    replace h0 := h0.alloc h0.size (.cells tableF 116)
    generalize w1.alloc (.cells tableF 116) = w2 at *
    generalize w1.heap.size = gT at *
    have cT2 := fun d os => cell_regrown cT d os
    clear hf ho cT
    refine wp_region_tail 5 (by kernel_rfl) (by kernel_rfl) ?_
    simp only [List.take_succ_cons, List.take_zero, List.drop_succ_cons, List.drop_zero]
    repeat (first | (refine wpQuiet_load_fr rfl 27 22 _ rfl _ rfl b1 Tryd.underlying27 (by kernel_rfl) ?_) | quiet_step (exact Calls.regrown_of (HG.out _ (grown_below h0 (below_regrown _ _ _) h0.size))))
    refine wpQuiet_nil ?_
    intro w3 hb1
    replace b2 := b2.below hb1 b2.lt
    replace h0 := grown_below h0 hb1 h0.size
    clear hcall hb1
    go_wp2_with (refine wpList_store_fr rfl 27 _ _ rfl _ rfl b2 rfl (by kernel_rfl) ?_)
    exact bodyPost_ret_fr2 (p := 4) (u := 5) (ty := 27) (e := 22) rfl rfl (b2.setRow _) Tryd.underlying27 (by kernel_rfl) rfl ⟨by rw [ha, hv]; rfl, below_setRow h0 (by omega) _⟩
set_option maxHeartbeats 1000000 in
theorem change_shrunk (f r : Nat → Nat) (hf : ∀ k, f k < 65536)
    (w : World)
    (hg : okF f = true → ∀ w1, Below w.heap.size w w1 → Calls Tryd.prog 110 #[.agg (FC f)] w1 fun e' w' => e' = .returned (.agg (FC r)) ∧ Below w1.heap.size w1 w') :
    Calls Tryd.prog 69 #[.agg (FC f), .int .i64 5] w fun e' w' => e' = .returned (.tuple #[.agg (FC (ifC (okC f) r)), .int .i64 (okC f)]) ∧ Below w.heap.size w w' := by
  have b1 := (Blk.new w 27 f).alloc (.cells (FC zeroF) 27)
  have b2 := Blk.new (w.alloc (.cells (FC f) 27)) 27 zeroF
  rw [World.size_alloc] at b2
  have h0 := ((Below.refl w.heap.size w).alloc (Nat.le_refl _) (.cells (FC f) 27)).alloc (by simp) (.cells (FC zeroF) 27)
  rw [FC_zero] at b1 b2 h0
  have hcall : ∀ w, (callFunc 110 #[.agg (FC f)]).run Tryd.prog w = .ok (.enter 110 #[.agg (FC f)]) w := fun _ => by kernel_rfl
  rcases okC_cases f with ⟨ho, ha⟩ | ⟨ho, ha⟩
  · clear hg hcall
    have hv : ifC 1 r = zeroF := by simp [ifC]
    go_enter Tryd.func69, Tryd.ntmps69
    go_wp2_with (first | (refine wpList_load_fr rfl 27 22 _ rfl _ rfl b1 Tryd.underlying27 (by kernel_rfl) ?_) | (go_at_call 45; refine (valid_any f hf _).mono ?_; rintro e' w1 ⟨rfl, hb1⟩; replace b1 := b1.below hb1 b1.lt; replace b2 := b2.below hb1 b2.lt; replace h0 := grown_below h0 hb1 h0.size; clear hb1) | (refine wpList_store_fr (f := zeroF) rfl 27 _ _ rfl _ rfl b2 rfl (by kernel_rfl) ?_))
    exact bodyPost_ret_fr2 (p := 4) (u := 5) (ty := 27) (e := 22) rfl rfl (b2.setRow _) Tryd.underlying27 (by kernel_rfl) rfl ⟨by rw [ha, hv]; rfl, below_setRow h0 (by omega) _⟩
  · have hv : ifC 0 r = r := by simp [ifC]
    have HG := Lib.hid (hg ho)
    clear hg
    go_enter Tryd.func69, Tryd.ntmps69
    go_wp2_with (first | (refine wpList_load_fr rfl 27 22 _ rfl _ rfl b1 Tryd.underlying27 (by kernel_rfl) ?_) | (go_at_call 45; refine (valid_any f hf _).mono ?_; rintro e' w1 ⟨rfl, hb1⟩; replace b1 := b1.below hb1 b1.lt; replace b2 := b2.below hb1 b2.lt; replace h0 := grown_below h0 hb1 h0.size; clear hb1) | (refine wpList_store_row rfl 116 _ _ rfl _ rfl (Row.new w1 116 _) rfl rfl table_one (by kernel_rfl) ?_; rw [setRow_new]))
    change Code.wp _ _ _ _ (w1.alloc (.cells tableF 116))
    have cT : (w1.alloc (.cells tableF 116)).cell? ⟨w1.heap.size, 5, none⟩ = some (.func (.func 110) #[] #[]) := (Row.new w1 116 tableF).cell 5
    replace b1 := b1.alloc (.cells tableF 116)
    replace b2 := b2.alloc (.cells tableF 116)
    replace h0 := h0.alloc h0.size (.cells tableF 116)
    generalize w1.alloc (.cells tableF 116) = w2 at *
    generalize w1.heap.size = gT at *
    have cT2 := fun d os => cell_regrown cT d os
    clear hf ho cT
    refine wp_region_tail 5 (by kernel_rfl) (by kernel_rfl) ?_
    simp only [List.take_succ_cons, List.take_zero, List.drop_succ_cons, List.drop_zero]
    repeat (first | (refine wpQuiet_load_fr rfl 27 22 _ rfl _ rfl b1 Tryd.underlying27 (by kernel_rfl) ?_) | quiet_step (exact Calls.regrown_of (HG.out _ (grown_below h0 (below_regrown _ _ _) h0.size))))
    refine wpQuiet_nil ?_
    intro w3 hb1
    replace b2 := b2.below hb1 b2.lt
    replace h0 := grown_below h0 hb1 h0.size
    clear hcall hb1
    go_wp2_with (refine wpList_store_fr rfl 27 _ _ rfl _ rfl b2 rfl (by kernel_rfl) ?_)
    exact bodyPost_ret_fr2 (p := 4) (u := 5) (ty := 27) (e := 22) rfl rfl (b2.setRow _) Tryd.underlying27 (by kernel_rfl) rfl ⟨by rw [ha, hv]; rfl, below_setRow h0 (by omega) _⟩
end Go.Proofs.YthkpefdjhdemeaaDoor
