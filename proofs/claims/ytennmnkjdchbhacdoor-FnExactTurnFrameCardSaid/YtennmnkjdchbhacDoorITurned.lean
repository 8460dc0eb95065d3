/- impl: Frame.turned, over the iterator of dots. -/
import Derived.Test.YtennmnkjdchbhacDoorRows
import Derived.Test.YtennmnkjdchbhacDoorSTurnFrame
import Derived.Test.YtennmnkjdchbhacDoorIPlace
import Derived.Test.YtennmnkjdchbhacDoorDotsI
import Derived.Test.YtennmnkjdchbhacDoorIter
import Derived.Shelf.Abstract
namespace Go.Proofs.YtennmnkjdchbhacDoor
open Go.RowKit Go.Shelf
set_option linter.unusedVariables false
attribute [local go_sem] Oper.semAt_some
def turnL (l : List (Nat × Nat)) : Nat → Nat := putAll (l.map fun d => (11 - (d.2 : Int), (d.1 : Int))) zeroF
set_option maxRecDepth 100000 in
set_option maxHeartbeats 2000000 in
theorem turned_any (f : Nat → Nat) (ho : okF f = true) (hf : ∀ k, f k < 65536) (w : World) (hT : Tab w 0 DBC) :
    Calls Tryd.prog 54 #[.agg (FC f)] w fun e w' => e = .returned (.agg (FC (turnL (dots f)))) ∧ Below w.heap.size w w' := by
  refine (callsIn_wide (n := 4)).1 ?_
  have b1 := (((Blk.new w 33 f).alloc (.cells (FC zeroF) 33)).alloc (.cells (FC zeroF) 33))
  have b2 := (Blk.new (w.alloc (.cells (FC f) 33)) 33 zeroF).alloc (.cells (FC zeroF) 33)
  have b3 := Blk.new ((w.alloc (.cells (FC f) 33)).alloc (.cells (FC zeroF) 33)) 33 zeroF
  have h0 := (((Below.refl w.heap.size w).alloc (Nat.le_refl _) (.cells (FC f) 33)).alloc (by simp) (.cells (FC zeroF) 33)).alloc (by simp; omega) (.cells (FC zeroF) 33)
  simp only [World.size_alloc] at b2 b3
  have hsz : (((w.alloc (.cells (FC f) 33)).alloc (.cells (FC zeroF) 33)).alloc (.cells (FC zeroF) 33)).heap.size = w.heap.size + 3 := by simp
  rw [FC_zero] at b1 b2 b3 h0 hsz
  refine callsIn_of_wp_marks Tryd.func54 rfl trivial ?_ rfl
  simp only [Tryd.ntmps54, List.size_toArray, List.length_cons, List.length_nil, Nat.reduceAdd, Nat.reduceSub, Array.replicate_succ, Array.replicate_zero, List.push_toArray, List.append_toArray, List.nil_append, List.cons_append]
  gi_step
  gi_step
  refine wpIn_wide.2 ?_
  go_wp2
  gi_step
  refine wpIn_wide.2 ?_
  go_wp2
  generalize World.alloc _ _ = w1 at *
  gi_step
  gi_step
  refine wpIn_wide.2 ?_
  go_wp2_with (first | (refine wpList_load_fr rfl 33 28 _ rfl _ rfl b1 Tryd.underlying33 (by kernel_rfl) ?_) | (go_at_call 36; refine ((callsIn_wide (n := 1)).1 (dotsI_in 1 f _)).mono ?_; rintro e w' ⟨rfl, rfl⟩))
  have b0 := Blk.new w1 33 f
  rw [hsz] at b0
  replace b2 := b2.alloc (.cells (FC f) 33)
  replace b3 := b3.alloc (.cells (FC f) 33)
  replace h0 := h0.alloc h0.size (.cells (FC f) 33)
  have hT1 := hT.below h0 hT.lt
  have hsz1 : (w1.alloc (.cells (FC f) 33)).heap.size = w.heap.size + 4 := by simp [hsz]
  clear b1
  have hgl := hT.lt
  generalize w1.alloc (.cells (FC f) 33) = w2 at *
  clear hsz w1
  gi_step
  refine wpIn_rangeFunc_ownH rfl (by omega) (gf := 52) (lb := #[.pointer (some ⟨w.heap.size + 3, 0, none⟩)]) rfl trivial (enters_of Tryd.func52 (by kernel_rfl) rfl)
    (dots_stops 3 (by omega) (w.heap.size + 3) w.heap.size f ho hf w2 b0 (by omega) hgl hT1).stops belowK_t (belowK_b (by omega)) (Below.refl _ _) (fun _ => rfl)
    (fun pre W => (Blk W (w.heap.size + 1 + 1) 33 (turnL (pre.map (·.1))) ∧ Blk W (w.heap.size + 1) 33 zeroF) ∧ Below w.heap.size w W)
    (fun _ _ _ => False)
    (OwnFrom.and (OwnFrom.and (Own.from (blk_own _ _ _) _) (Own.from (blk_own _ _ _) _)) (ownFrom_below (Nat.le_refl _) (by omega)))
    (fun _ _ _ _ _ hs _ _ => hs)
    ⟨⟨b3, b2⟩, h0⟩
    (fun x a' W => ∃ Bx, w.heap.size + 1 + 1 < Bx ∧ Row W Bx 65 #[.int .i8 (x.1.1 : Int), .int .i8 (x.1.2 : Int)] ∧ a' = { tmps := #[.agg (FC f), .pointer (some ⟨w.heap.size, 0, none⟩), .pointer (some ⟨w.heap.size + 1, 0, none⟩), .pointer (some ⟨w.heap.size + 1 + 1, 0, none⟩), .pointer (some ⟨Bx, 0, none⟩), .agg (FC f), .func (.func 52) #[] #[.pointer (some ⟨w.heap.size + 3, 0, none⟩)], .agg #[.int .i8 (x.1.1 : Int), .int .i8 (x.1.2 : Int)], undef, undef, undef, undef, undef, undef, undef, undef, undef], defers := [] })
    (fun x a' _ X Y row hs hg hr => by obtain ⟨Bx, h1, h2, h3⟩ := hs; exact ⟨Bx, h1, h2.kept hg (fun r e => (hr r e).2), h3⟩)
    ?assign ?body ?done ?stop
  case assign =>
    rintro l pre x W K ⟨⟨c3, c2⟩, hB1⟩ hK
    have hl3 := c3.lt
    unfold dotEnc
    refine round_list ?_
    go_wp2_with (refine wpList_store_row rfl 65 _ _ rfl _ rfl (Row.new W 65 _) rfl rfl (by simp [Value.oneCell']) (by kernel_rfl) ?_; rw [setRow_new])
    exact hK _ _ ((KeepsOthers.alloc _ _).from _) ((Below.refl _ W).alloc hB1.size _) ⟨⟨c3.alloc _, c2.alloc _⟩, hB1.alloc hB1.size _⟩ ⟨W.heap.size, hl3, Row.new W _ _, rfl⟩
  case body =>
    rintro l pre x a' W hl _ ⟨⟨c3, c2⟩, hB1⟩ ⟨Bx, hBx, bX, rfl⟩ _
    obtain ⟨⟨x, y⟩, hxy⟩ := x
    have hm := mem_dots.1 hxy
    have hx := hm.1
    have hy := hm.2.1
    dsimp only at hx hy bX ⊢
    have k1 : IntKind.i8.wrap (11 - (y : Int)) = ((11 - y : Nat) : Int) := by rw [show 11 - (y : Int) = ((11 - y : Nat) : Int) by omega]; exact wrap8d (by omega)
    have cc0 : W.cell? ⟨Bx, 0, none⟩ = some (.int .i8 (x : Int)) := Row.cell bX 0
    have cc1 : W.cell? ⟨Bx, 1, none⟩ = some (.int .i8 (y : Int)) := Row.cell bX 1
    have hlt3 : ∀ k, turnL (pre.map (·.1)) k < 65536 := putAll_lt _ zeroF_lt
    have cW := fun w => dwith_any (turnL (pre.map (·.1))) (11 - y) x (by omega) hx hlt3 w
    clear hm
    have hl3 := c3.lt
    have hs := hB1.size
    gi_step
    gi_step
    refine round_list ?_
    go_wp2_with (first | (refine wpList_load_fr rfl 33 28 _ rfl _ rfl c3 Tryd.underlying33 (by kernel_rfl) ?_) | (go_at_call 75; refine (cW _).mono ?_; rintro e' w3 ⟨rfl, hb3⟩; replace c3 := c3.below hb3 c3.lt; replace c2 := c2.below hb3 c2.lt; have hB3 := grown_below hB1 hb3 hB1.size) | (refine wpList_store_fr rfl 33 _ _ rfl _ rfl c3 rfl (by kernel_rfl) ?_))
    refine ⟨((keepsO_below hb3).trans (keepsO_setRow c3 _)).from _, below_setRow (hb3.mono hs) (by omega) _, ⟨⟨?_, c2.setRowOther _ (by omega)⟩, below_setRow hB3 (by omega) _⟩⟩
    have e1 : turnL ((pre ++ [(⟨(x, y), hxy⟩ : { d // d ∈ dots f })]).map (·.1)) = putF (turnL (pre.map (·.1))) ((11 - y : Nat) : Int) (x : Int) := by
      unfold turnL
      rw [List.map_append, List.map_append, List.map_singleton, List.map_singleton, putAll_snoc]
      simp only
      rw [show 11 - (y : Int) = ((11 - y : Nat) : Int) by omega]
    rw [e1]
    exact c3.setRow _
  case done =>
    rintro D ys W hD hys ⟨⟨c3, c2⟩, hB1⟩ hK
    rw [hys] at c3
    refine (by assumption : ∀ (a : Act) (w : World), _ → _) _ _ ?_
    gi_step
    refine wpIn_wide.2 ?_
    go_wp2_with (first | (refine wpList_load_fr rfl 33 28 _ rfl _ rfl c3 Tryd.underlying33 (by kernel_rfl) ?_) | (refine wpList_store_fr rfl 33 _ _ rfl _ rfl c2 rfl (by kernel_rfl) ?_))
    gi_wp2
    have hlt2 := c2.lt
    have hK' := (keepsO_setRow c2 (FC (turnL (dots f)))).same D _ hK rfl
    refine ⟨by simp, .inl ⟨_, _, rfl, run_takeDeferred hK', ?_⟩⟩
    have c5 := (c2.setRow (turnL (dots f))).put (.deferred none) hK' rfl
    exact ⟨_, run_results_fr (p := 2) (ty := 33) (e := 28) rfl rfl c5 Tryd.underlying33 (by kernel_rfl), rfl, below_put (below_setRow hB1 (by omega) _) _ hK' (by omega)⟩
  case stop =>
    rintro D c pre W _ _ h _
    exact h.elim
theorem turn_eq (f : Nat → Nat) : turnL (dots f) = turnS f := rfl
end Go.Proofs.YtennmnkjdchbhacDoor
