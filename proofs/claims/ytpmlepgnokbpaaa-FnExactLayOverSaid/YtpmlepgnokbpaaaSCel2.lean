/- spec: CelFrom, MoveCel, LayOver, ShownBy. -/
import Derived.Test.YtpmlepgnokbpaaaRows
import Derived.Test.YtpmlepgnokbpaaaSCel
import Derived.Test.YtpmlepgnokbpaaaSOver
import Derived.Test.YtpmlepgnokbpaaaSBoth
import Derived.Test.YtpmlepgnokbpaaaWayAt
namespace Go.Proofs.Ytpmlepgnokbpaaa
set_option maxRecDepth 100000
open Go.RowKit
set_option linter.unusedVariables false
set_option linter.unusedSimpArgs false
theorem wpList_load_celG {P : Program} {ops : Array Oper} {rest : List Oper} {o : Oper} {a : Act} {w : World} {Q : Exit → Act → World → Prop} {g : Nat} {t : TypeId} {i k : Nat → Nat} (hw : Region.wanted o (yielded ops a.tmps) = true) (ty : TypeId) (x : Operand) (ho : o.op = .load ty x) (hx : a.eval x = .pointer (some ⟨g, 0, none⟩)) (hb : CelAt w g t i k) {d : TypeDesc} (hu : P.underlying ty = some d) (hd : d.isRow = true) (hi : (P.info? ty).map (·.size) = some 24)
    (h : wpList P ops Q rest (a.put o.dst (.agg (CC i k))) w) : wpList P ops Q (o :: rest) a w :=
  wpList_step fun K hK => by
    rw [if_pos hw]
    exact wp_load_row ty x ho g hx t (CC i k) (0, 0) d hb hu (by cases d <;> simp_all [TypeDesc.isRow]) hi (hK _ _ h)
set_option maxHeartbeats 1000000 in
theorem specCelFrom_any (i k : Nat → Nat) (hi : ∀ y, i y < 65536) (hk : ∀ y, k y < 65536) (w : World) :
    Calls Try.prog 25 #[.agg (FC i), .agg (FC k)] w fun e' w' => e' = .returned (.tuple #[.agg (CC (ifC (bothC i k) i) (ifC (bothC i k) (joinF i k))), .int .i64 (bothC i k)]) ∧ Below w.heap.size w w' := by
  have b1 := ((Blk.new w 27 i).alloc (.cells (FC k) 27)).alloc (.cells (CC zeroF zeroF) 29)
  have b2 := (Blk.new (w.alloc (.cells (FC i) 27)) 27 k).alloc (.cells (CC zeroF zeroF) 29)
  have r := CelAt.new ((w.alloc (.cells (FC i) 27)).alloc (.cells (FC k) 27)) 29 zeroF zeroF
  rw [World.size_alloc] at b2
  rw [World.size_alloc, World.size_alloc] at r
  have h0 := (((Below.refl w.heap.size w).alloc (Nat.le_refl _) (.cells (FC i) 27)).alloc (by simp) (.cells (FC k) 27)).alloc (by simp; omega) (.cells (CC zeroF zeroF) 29)
  rw [CC_zero] at b1 b2 r h0
  have hB := fun w A B hA hB => both_any A B i k w hA hB
  have hbl := build_cel i (joinF i k)
  rcases bothC_cases i k with ⟨ho, ha⟩ | ⟨ho, h1, ha⟩ | ⟨ho, h1, ha⟩
  case inr.inr =>
    rw [ha] at hB
    rw [ha, show ifC 0 i = i by simp [ifC], show ifC 0 (joinF i k) = joinF i k by simp [ifC]]
    clear ho h1 ha
    go_enter Try.func25, Try.ntmps25
    go_wp2_with (go_at_call 63; refine (hB _ _ _ b1 b2).mono ?_; rintro e' w' ⟨rfl, rfl⟩)
    generalize (((w.alloc _).alloc _).alloc _) = w1 at *
    have cJ := fun w' (hb : Below w1.heap.size w1 w') => specJoinAt_any _ 0 _ 0 i k hi hk w' (range_below b1.range hb b1.lt) (Nat.lt_of_lt_of_le b1.lt hb.size) (range_below b2.range hb b2.lt) (Nat.lt_of_lt_of_le b2.lt hb.size)
    refine wp_region_tail 3 (by kernel_rfl) (by kernel_rfl) ?_
    simp only [List.take_succ_cons, List.take_zero, List.drop_succ_cons, List.drop_zero]
    repeat (first | (refine wpQuiet_load_fr rfl 27 22 _ rfl _ rfl b1 Try.underlying27 (by kernel_rfl) ?_) | (refine wpQuiet_build2 (u := .agg (FC i)) (v := .agg (FC (joinF i k))) rfl 29 0 1 _ _ rfl rfl rfl hbl ?_) | quiet_step (exact Calls.regrown_of (cJ _ (below_regrown _ _ _))))
    refine wpQuiet_nil ?_
    intro w3 hb3
    replace r := r.below hb3 r.lt
    replace h0 := grown_below h0 hb3 h0.size
    clear cJ hb3 hB b1 b2
    go_wp2_with (refine wpList_store_cel rfl 29 _ _ rfl r rfl rfl (by kernel_rfl) ?_; intro r')
    exact bodyPost_ret_row2 (p := 4) (u := 5) (ty := 29) rfl rfl r' Try.underlying29 rfl (by kernel_rfl) rfl ⟨rfl, below_setRow h0 (by omega) _⟩
  all_goals
    rw [ha] at hB
    rw [ha, show ifC 1 i = zeroF by simp [ifC], show ifC 1 (joinF i k) = zeroF by simp [ifC]]
    clear ho ha
    go_enter Try.func25, Try.ntmps25
    go_wp2_with (first | (go_at_call 63; refine (hB _ _ _ b1 b2).mono ?_; rintro e' w' ⟨rfl, rfl⟩) | (refine wpList_store_cel (i := zeroF) (k := zeroF) rfl 29 _ _ rfl r rfl rfl (by kernel_rfl) ?_; intro r'))
    exact bodyPost_ret_row2 (p := 4) (u := 5) (ty := 29) rfl rfl r' Try.underlying29 rfl (by kernel_rfl) rfl ⟨rfl, below_setRow h0 (by omega) _⟩
set_option maxHeartbeats 1000000 in
theorem specMoveCel_any (i k : Nat → Nat) (e s : Int) (hi : ∀ y, i y < 65536) (hk : ∀ y, k y < 65536) (w : World) :
    Calls Try.prog 29 #[.agg (CC i k), .int .i64 e, .int .i64 s] w fun e' w' => e' = .returned (.tuple #[.agg (CC (ifC (mvcC i k e s) (movedI i e s 12)) (ifC (mvcC i k e s) (movedI k e s 12))), .int .i64 (mvcC i k e s)]) ∧ Below w.heap.size w w' := by
  have a1 := (CelAt.new w 29 i k).alloc (.cells (CC zeroF zeroF) 29)
  have r := CelAt.new (w.alloc (.cells (CC i k) 29)) 29 zeroF zeroF
  rw [World.size_alloc] at r
  have h0 := ((Below.refl w.heap.size w).alloc (Nat.le_refl _) (.cells (CC i k) 29)).alloc (by simp) (.cells (CC zeroF zeroF) 29)
  rw [CC_zero] at a1 r h0
  have cC := fun w' (hb : CelAt w' w.heap.size 29 i k) => specCel_any w.heap.size 0 i k hi hk w' hb.cells hb.lt
  rcases mvcC_cases i k e s with ⟨ho, ha⟩ | ⟨ho, h1, ha⟩ | ⟨ho, h1, h2, ha⟩ | ⟨ho, h1, h2, ha⟩
  case inl =>
    rw [ho] at cC
    rw [ha, show ifC 1 (movedI i e s 12) = zeroF by simp [ifC], show ifC 1 (movedI k e s 12) = zeroF by simp [ifC]]
    clear ho ha
    go_enter Try.func29, Try.ntmps29
    go_wp2_with (first | (go_at_call 53; refine (cC _ a1).mono ?_; rintro e' w1 ⟨rfl, hb⟩; replace r := r.below hb r.lt; replace h0 := grown_below h0 hb h0.size; clear hb) | (refine wpList_store_cel (i := zeroF) (k := zeroF) rfl 29 _ _ rfl r rfl rfl (by kernel_rfl) ?_; intro r'))
    exact bodyPost_ret_row2 (p := 6) (u := 7) (ty := 29) rfl rfl r' Try.underlying29 rfl (by kernel_rfl) rfl ⟨rfl, below_setRow h0 (by omega) _⟩
  case inr.inr.inr =>
    have hw := fun w' b o h => wayAt_any b o i e s w' h
    rw [way_of_ok ho, ha] at hw
    rw [ho] at cC
    obtain ⟨oi, ok⟩ := okc_true ho
    have i1 := inB_iff.1 h1
    have i2 := inB_iff.1 h2
    have cM := fun w' (hb : CelAt w' w.heap.size 29 i k) => specCelMoved_any w.heap.size 0 i k e s oi ok hi hk (by omega) (by omega) (by omega) (by omega) w' hb.cells hb.lt
    rw [ha, show ifC 0 (movedI i e s 12) = movedI i e s 12 by simp [ifC], show ifC 0 (movedI k e s 12) = movedI k e s 12 by simp [ifC]]
    clear ho ha h1 h2 i1 i2
    go_enter Try.func29, Try.ntmps29
    go_wp2_with (first | (go_at_call 53; refine (cC _ a1).mono ?_; rintro e' w1 ⟨rfl, hb⟩; replace a1 := a1.below hb a1.lt; replace r := r.below hb r.lt; replace h0 := grown_below h0 hb h0.size; clear hb) | (go_at_call 66; refine (hw _ _ _ a1.ink).mono ?_; rintro e' w' ⟨rfl, rfl⟩) | (go_at_call 67; refine (cM _ a1).mono ?_; rintro e' w1 ⟨rfl, hb⟩; replace r := r.below hb r.lt; replace h0 := grown_below h0 hb h0.size; clear hb) | (refine wpList_store_cel rfl 29 _ _ rfl r rfl rfl (by kernel_rfl) ?_; intro r'))
    exact bodyPost_ret_row2 (p := 6) (u := 7) (ty := 29) rfl rfl r' Try.underlying29 rfl (by kernel_rfl) rfl ⟨rfl, below_setRow h0 (by omega) _⟩
  all_goals
    have hw := fun w' b o h => wayAt_any b o i e s w' h
    rw [way_of_ok ho, ha] at hw
    rw [ho] at cC
    rw [ha, show ifC 2 (movedI i e s 12) = zeroF by simp [ifC], show ifC 2 (movedI k e s 12) = zeroF by simp [ifC]]
    clear ho ha h1
    go_enter Try.func29, Try.ntmps29
    go_wp2_with (first | (go_at_call 53; refine (cC _ a1).mono ?_; rintro e' w1 ⟨rfl, hb⟩; replace a1 := a1.below hb a1.lt; replace r := r.below hb r.lt; replace h0 := grown_below h0 hb h0.size; clear hb) | (go_at_call 66; refine (hw _ _ _ a1.ink).mono ?_; rintro e' w' ⟨rfl, rfl⟩) | (refine wpList_store_cel (i := zeroF) (k := zeroF) rfl 29 _ _ rfl r rfl rfl (by kernel_rfl) ?_; intro r'))
    exact bodyPost_ret_row2 (p := 6) (u := 7) (ty := 29) rfl rfl r' Try.underlying29 rfl (by kernel_rfl) rfl ⟨rfl, below_setRow h0 (by omega) _⟩
set_option maxHeartbeats 1000000 in
theorem specLayOver_any (i k i2 k2 : Nat → Nat) (hi : ∀ y, i y < 65536) (hk : ∀ y, k y < 65536) (hi2 : ∀ y, i2 y < 65536) (hk2 : ∀ y, k2 y < 65536) (w : World) :
    Calls Try.prog 31 #[.agg (CC i k), .agg (CC i2 k2)] w fun e' w' => e' = .returned (.tuple #[.agg (CC (ifC (ovC i k i2 k2) (ovI i k i2)) (ifC (ovC i k i2 k2) (joinF k k2))), .int .i64 (ovC i k i2 k2)]) ∧ Below w.heap.size w w' := by
  have a1 := ((CelAt.new w 29 i k).alloc (.cells (CC i2 k2) 29)).alloc (.cells (CC zeroF zeroF) 29)
  have a2 := (CelAt.new (w.alloc (.cells (CC i k) 29)) 29 i2 k2).alloc (.cells (CC zeroF zeroF) 29)
  have r := CelAt.new ((w.alloc (.cells (CC i k) 29)).alloc (.cells (CC i2 k2) 29)) 29 zeroF zeroF
  rw [World.size_alloc] at a2
  rw [World.size_alloc, World.size_alloc] at r
  have h0 := (((Below.refl w.heap.size w).alloc (Nat.le_refl _) (.cells (CC i k) 29)).alloc (by simp) (.cells (CC i2 k2) 29)).alloc (by simp; omega) (.cells (CC zeroF zeroF) 29)
  rw [CC_zero] at a1 a2 r h0
  have c1 := fun w' (hb : CelAt w' w.heap.size 29 i k) => specCel_any w.heap.size 0 i k hi hk w' hb.cells hb.lt
  have c2 := fun w' (hb : CelAt w' (w.heap.size + 1) 29 i2 k2) => specCel_any (w.heap.size + 1) 0 i2 k2 hi2 hk2 w' hb.cells hb.lt
  have cO := fun w' (h1 : CelAt w' w.heap.size 29 i k) (h2 : CelAt w' (w.heap.size + 1) 29 i2 k2) => specOver_any _ 0 _ 0 i k i2 k2 hi hk hi2 hk2 w' h1.cells h1.lt h2.cells h2.lt
  rcases ovC_cases i k i2 k2 with ⟨ho, ha⟩ | ⟨ho, h1, ha⟩ | ⟨ho, h1, ha⟩
  case inr.inr =>
    rw [ho] at c1
    rw [h1] at c2
    rw [ha, show ifC 0 (ovI i k i2) = ovI i k i2 by simp [ifC], show ifC 0 (joinF k k2) = joinF k k2 by simp [ifC]]
    clear ho h1 ha
    go_enter Try.func31, Try.ntmps31
    go_wp2_with (first | (go_at_call 53; first | (with_reducible refine (c1 _ a1).mono ?_; clear c1; rintro e' w1 ⟨rfl, hb⟩; replace a1 := a1.below hb a1.lt; replace a2 := a2.below hb a2.lt; replace r := r.below hb r.lt; replace h0 := grown_below h0 hb h0.size; clear hb) | (refine (c2 _ a2).mono ?_; clear c2; rintro e' w2 ⟨rfl, hb⟩; replace a1 := a1.below hb a1.lt; replace a2 := a2.below hb a2.lt; replace r := r.below hb r.lt; replace h0 := grown_below h0 hb h0.size; clear hb)) | (go_at_call 70; refine (cO _ a1 a2).mono ?_; rintro e' w1 ⟨rfl, hb⟩; replace r := r.below hb r.lt; replace h0 := grown_below h0 hb h0.size; clear hb) | (refine wpList_store_cel rfl 29 _ _ rfl r rfl rfl (by kernel_rfl) ?_; intro r'))
    exact bodyPost_ret_row2 (p := 4) (u := 5) (ty := 29) rfl rfl r' Try.underlying29 rfl (by kernel_rfl) rfl ⟨rfl, below_setRow h0 (by omega) _⟩
  all_goals
    rw [ho] at c1
    try rw [h1] at c2
    rw [ha, show ifC 1 (ovI i k i2) = zeroF by simp [ifC], show ifC 1 (joinF k k2) = zeroF by simp [ifC]]
    clear ho ha
    go_enter Try.func31, Try.ntmps31
    go_wp2_with (first | (go_at_call 53; first | (with_reducible refine (c1 _ a1).mono ?_; clear c1; rintro e' w1 ⟨rfl, hb⟩; replace a1 := a1.below hb a1.lt; replace a2 := a2.below hb a2.lt; replace r := r.below hb r.lt; replace h0 := grown_below h0 hb h0.size; clear hb) | (refine (c2 _ a2).mono ?_; clear c2; rintro e' w2 ⟨rfl, hb⟩; replace a1 := a1.below hb a1.lt; replace a2 := a2.below hb a2.lt; replace r := r.below hb r.lt; replace h0 := grown_below h0 hb h0.size; clear hb)) | (refine wpList_store_cel (i := zeroF) (k := zeroF) rfl 29 _ _ rfl r rfl rfl (by kernel_rfl) ?_; intro r'))
    exact bodyPost_ret_row2 (p := 4) (u := 5) (ty := 29) rfl rfl r' Try.underlying29 rfl (by kernel_rfl) rfl ⟨rfl, below_setRow h0 (by omega) _⟩
set_option maxHeartbeats 1000000 in
theorem specShownBy_any (i k : Nat → Nat) (hi : ∀ y, i y < 65536) (hk : ∀ y, k y < 65536) (w : World) :
    Calls Try.prog 33 #[.agg (CC i k)] w fun e' w' => e' = .returned (.tuple #[.agg (FC (ifC (celC i k) i)), .int .i64 (celC i k)]) ∧ Below w.heap.size w w' := by
  have a1 := (CelAt.new w 29 i k).alloc (.cells (FC zeroF) 27)
  have r := Blk.new (w.alloc (.cells (CC i k) 29)) 27 zeroF
  rw [World.size_alloc] at r
  have h0 := ((Below.refl w.heap.size w).alloc (Nat.le_refl _) (.cells (CC i k) 29)).alloc (by simp) (.cells (FC zeroF) 27)
  rw [FC_zero] at a1 r h0
  have c1 := fun w' (hb : CelAt w' w.heap.size 29 i k) => specCel_any w.heap.size 0 i k hi hk w' hb.cells hb.lt
  unfold celC
  cases ho : okc i k with
  | true =>
    rw [ho] at c1
    rw [if_pos rfl, show ifC 0 i = i by simp [ifC]]
    clear ho
    go_enter Try.func33, Try.ntmps33
    go_wp2_with (first | (go_at_call 53; refine (c1 _ a1).mono ?_; rintro e' w1 ⟨rfl, hb⟩; replace a1 := a1.below hb a1.lt; replace r := r.below hb r.lt; replace h0 := grown_below h0 hb h0.size; clear hb) | (refine wpList_load_at rfl 27 22 _ rfl _ _ rfl a1.ink Try.underlying27 (by kernel_rfl) ?_) | (refine wpList_store_fr rfl 27 _ _ rfl _ rfl r rfl (by kernel_rfl) ?_))
    exact bodyPost_ret_fr2 (p := 2) (u := 3) (ty := 27) (e := 22) rfl rfl (r.setRow _) Try.underlying27 (by kernel_rfl) rfl ⟨rfl, below_setRow h0 (by omega) _⟩
  | false =>
    rw [ho] at c1
    rw [if_neg (by decide), show ifC 1 i = zeroF by simp [ifC]]
    clear ho
    go_enter Try.func33, Try.ntmps33
    go_wp2_with (first | (go_at_call 53; refine (c1 _ a1).mono ?_; rintro e' w1 ⟨rfl, hb⟩; replace a1 := a1.below hb a1.lt; replace r := r.below hb r.lt; replace h0 := grown_below h0 hb h0.size; clear hb) | (refine wpList_store_fr (f := zeroF) rfl 27 _ _ rfl _ rfl r rfl (by kernel_rfl) ?_))
    exact bodyPost_ret_fr2 (p := 2) (u := 3) (ty := 27) (e := 22) rfl rfl (r.setRow _) Try.underlying27 (by kernel_rfl) rfl ⟨rfl, below_setRow h0 (by omega) _⟩
end Go.Proofs.Ytpmlepgnokbpaaa
