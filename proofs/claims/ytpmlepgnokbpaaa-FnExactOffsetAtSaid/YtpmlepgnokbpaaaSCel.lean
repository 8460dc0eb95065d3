/- spec: l05Cel, ValidCel, l05Moved, l05Over at whatever addresses. -/
import Derived.Test.YtpmlepgnokbpaaaRows
import Derived.Test.YtpmlepgnokbpaaaCel0
import Derived.Test.YtpmlepgnokbpaaaCelM
import Derived.Test.YtpmlepgnokbpaaaLessAt
import Derived.Test.YtpmlepgnokbpaaaJoinAt
import Derived.Test.YtpmlepgnokbpaaaMovedAt
import Derived.Test.YtpmlepgnokbpaaaSBook
namespace Go.Proofs.Ytpmlepgnokbpaaa
set_option maxRecDepth 100000
open Go.RowKit
set_option linter.unusedVariables false
set_option linter.unusedSimpArgs false
set_option maxHeartbeats 1000000 in
theorem specCel_any (b o : Nat) (i k : Nat → Nat) (hi : ∀ y, i y < 65536) (hk : ∀ y, k y < 65536) (w : World) (h : CelIn w b o i k) (lb : b < w.heap.size) :
    Calls Try.prog 53 #[.pointer (some ⟨b, o, none⟩)] w fun e w' => e = .returned (.bool (okc i k)) ∧ Below w.heap.size w w' := by
  obtain ⟨i0, hi0⟩ : ∃ i, Try.prog.info? 22 = some i := ⟨_, rfl⟩
  have cI := fun w' (hb : Below w.heap.size w w') => okAt_any b o i w' (range_below h.ink hb lb)
  have cK := fun w' (hb : Below w.heap.size w w') => okAt_any b (o + 12) k w' (range_below h.cov hb lb)
  have cL := fun w' (hb : Below w.heap.size w w') => specLessAt_any b o b (o + 12) i k hi hk w' (range_below h.ink hb lb) (Nat.lt_of_lt_of_le lb hb.size) (range_below h.cov hb lb) (Nat.lt_of_lt_of_le lb hb.size)
  have hq := fun w => run_eql_fr (P := Try.prog) w (lessF i k) zeroF Try.underlying27 (by kernel_rfl) Try.underlying22 hi0 (by kernel_rfl)
  rw [FC_zero] at hq
  have h0 := Below.refl w.heap.size w
  unfold okc
  cases h1 : okF i with
  | false =>
    rw [h1] at cI
    clear h1 hi0 hq
    go_enter Try.func53, Try.ntmps53
    go_wp2_with (go_at_call 91; refine (cI _ h0).mono ?_; rintro e' w' ⟨rfl, rfl⟩)
    go_ret
    exact ⟨rfl, h0⟩
  | true =>
    rw [h1] at cI
    cases h2 : okF k with
    | false =>
      rw [h2] at cK
      clear h1 h2 hi0 hq
      go_enter Try.func53, Try.ntmps53
      go_wp2_with (go_at_call 91; first | (refine (cI _ h0).mono ?_; clear cI; rintro e' w' ⟨rfl, rfl⟩) | (refine (cK _ h0).mono ?_; rintro e' w' ⟨rfl, rfl⟩))
      go_ret
      exact ⟨rfl, h0⟩
    | true =>
      rw [h2] at cK
      generalize eqF (lessF i k) zeroF = q at *
      clear h1 h2 hi0
      go_enter Try.func53, Try.ntmps53
      go_wp2_with (go_at_call 91; first | (refine (cI _ h0).mono ?_; clear cI; rintro e' w' ⟨rfl, rfl⟩) | (refine (cK _ h0).mono ?_; clear cK; rintro e' w' ⟨rfl, rfl⟩))
      refine wp_region_calm (by kernel_rfl) (by kernel_rfl) ?_
      repeat (quiet_step (exact Calls.regrown_of (cL _ (below_regrown _ _ _))))
      refine wpQuiet_nil ?_
      intro w3 hb3
      go_wp2
      go_ret
      exact ⟨rfl, hb3⟩
set_option maxHeartbeats 1000000 in
theorem specValidCel_any (i k : Nat → Nat) (hi : ∀ y, i y < 65536) (hk : ∀ y, k y < 65536) (w : World) :
    Calls Try.prog 15 #[.agg (CC i k)] w fun e w' => e = .returned (.bool (okc i k)) ∧ Below w.heap.size w w' := by
  have r := CelAt.new w 29 i k
  have h0 := (Below.refl w.heap.size w).alloc (Nat.le_refl _) (.cells (CC i k) 29)
  go_enter Try.func15, Try.ntmps15
  go_wp2_with (go_at_call 53; refine (specCel_any _ _ i k hi hk _ r.cells r.lt).mono ?_; rintro e' w1 ⟨rfl, hb1⟩)
  go_ret
  exact ⟨rfl, grown_below h0 hb1 h0.size⟩
set_option maxHeartbeats 1000000 in
theorem specCelMoved_any (b o : Nat) (i k : Nat → Nat) (e s : Int) (oi : okF i = true) (ok : okF k = true) (hi : ∀ y, i y < 65536) (hk : ∀ y, k y < 65536) (e1 : -200 ≤ e) (e2 : e ≤ 200) (s1 : -200 ≤ s) (s2 : s ≤ 200) (w : World) (h : CelIn w b o i k) (lb : b < w.heap.size) :
    Calls Try.prog 67 #[.pointer (some ⟨b, o, none⟩), .int .i64 e, .int .i64 s] w fun e' w' => e' = .returned (.agg (CC (movedI i e s 12) (movedI k e s 12))) ∧ Below w.heap.size w w' := by
  have r := CelAt.new w 29 zeroF zeroF
  have h0 := (Below.refl w.heap.size w).alloc (Nat.le_refl _) (.cells (CC zeroF zeroF) 29)
  have cI := fun w' (hb : Below w.heap.size w w') => specMovedAt_any b o i e s e1 e2 s1 s2 w' hi (range_below h.ink hb lb) (Nat.lt_of_lt_of_le lb hb.size)
  have cK := fun w' (hb : Below w.heap.size w w') => specMovedAt_any b (o + 12) k e s e1 e2 s1 s2 w' hk (range_below h.cov hb lb) (Nat.lt_of_lt_of_le lb hb.size)
  rw [FC_ext (moved_eq oi e s)] at cI
  rw [FC_ext (moved_eq ok e s)] at cK
  have hbl := build_cel (movedI i e s 12) (movedI k e s 12)
  rw [CC_zero] at r h0
  go_enter Try.func67, Try.ntmps67
  go_wp2_with fail
  generalize (w.alloc _) = w1 at *
  refine wp_region_tail 13 (by kernel_rfl) (by kernel_rfl) ?_
  simp only [List.take_succ_cons, List.take_zero, List.drop_succ_cons, List.drop_zero]
  repeat (first | (refine wpQuiet_build2 (u := .agg (FC (movedI i e s 12))) (v := .agg (FC (movedI k e s 12))) rfl 29 0 1 _ _ rfl rfl rfl hbl ?_) | quiet_step (first | with_reducible exact Calls.regrown_of (cI _ (grown_below h0 (below_regrown _ _ _) h0.size)) | with_reducible exact Calls.regrown_of (cK _ (grown_below h0 (below_regrown _ _ _) h0.size))))
  refine wpQuiet_nil ?_
  intro w3 hb3
  replace r := r.below hb3 r.lt
  replace h0 := grown_below h0 hb3 h0.size
  clear cI cK hb3
  go_wp2_with (refine wpList_store_cel rfl 29 _ _ rfl r rfl rfl (by kernel_rfl) ?_; intro r')
  exact bodyPost_ret_row (p := 6) (ty := 29) rfl rfl r' Try.underlying29 rfl (by kernel_rfl) rfl ⟨rfl, below_setRow h0 (Nat.le_refl _) _⟩
end Go.Proofs.Ytpmlepgnokbpaaa
