/- spec: l01Grow; what grown frames are. -/
import Derived.Test.YthkpefdjhdemeaaDoorRows
import Derived.Test.YthkpefdjhdemeaaDoorSMove
import Derived.Test.YthkpefdjhdemeaaDoorSInvert
namespace Go.Proofs.YthkpefdjhdemeaaDoor
set_option maxRecDepth 100000
open Go.RowKit
set_option linter.unusedVariables false
def nb (d : Nat × Nat) : List (Int × Int) := [((d.1 : Int) - 1, (d.2 : Int)), ((d.1 : Int) + 1, (d.2 : Int)), ((d.1 : Int), (d.2 : Int) - 1), ((d.1 : Int), (d.2 : Int) + 1)]
def growS (f : Nat → Nat) : Nat → Nat := putAll ((dots f).flatMap nb) f
def growI (f : Nat → Nat) : Nat → Nat := joinF (joinF (joinF (joinF f (movedI f 0 (-1) 12)) (movedI f (-1) 0 12)) (movedI f 1 0 12)) (movedI f 0 1 12)
theorem putAll_append (l m : List (Int × Int)) (g : Nat → Nat) : putAll (l ++ m) g = putAll m (putAll l g) := by simp [putAll]
theorem testBit_movedI {f : Nat → Nat} (h : okF f = true) (e s : Int) {t : Nat} (ht : t < 12) (x : Nat) :
    (movedI f e s 12 t).testBit x = (decide (0 ≤ (t : Int) - s ∧ (t : Int) - s < 12 ∧ x < 12 ∧ 0 ≤ (x : Int) - e) && (f ((t : Int) - s).toNat).testBit ((x : Int) - e).toNat) := by
  unfold movedI
  split
  · rename_i hr
    rw [testBit_movedRow (okF_iff.1 h _ (by omega))]
    congr 1
    rw [Bool.eq_iff_iff]
    simp only [Bool.and_eq_true, decide_eq_true_eq]
    omega
  · rename_i hr
    rw [Nat.zero_testBit, decide_eq_false (by omega), Bool.false_and]
theorem bit_lt {f : Nat → Nat} (h : okF f = true) {y x : Nat} (hy : y < 12) (hb : (f y).testBit x = true) : x < 12 := by
  rcases Nat.lt_or_ge x 12 with hl | hl
  · exact hl
  · rw [ok_bit h hy hl] at hb; cases hb
theorem grow_eq {f : Nat → Nat} (h : okF f = true) : ∀ y, y < 12 → growS f y = growI f y := by
  refine frame_ext fun y hy x => ?_
  unfold growS growI
  rw [testBit_putAll]
  unfold joinF
  rw [Nat.testBit_or, Nat.testBit_or, Nat.testBit_or, Nat.testBit_or, testBit_movedI h _ _ hy, testBit_movedI h _ _ hy, testBit_movedI h _ _ hy, testBit_movedI h _ _ hy, Bool.or_assoc, Bool.or_assoc, Bool.or_assoc]
  congr 1
  apply Bool.eq_iff_iff.2
  rw [List.any_eq_true]
  simp only [Bool.or_eq_true, Bool.and_eq_true, decide_eq_true_eq]
  constructor
  · rintro ⟨d, hd, hp, hx, hy'⟩
    obtain ⟨d0, hd0, hn⟩ := List.mem_flatMap.1 hd
    obtain ⟨m1, m2, m3⟩ := mem_dots.1 hd0
    have hp := plB_iff.1 hp
    simp only [nb, List.mem_cons, List.not_mem_nil, or_false] at hn
    rcases hn with rfl | rfl | rfl | rfl <;> simp only at hx hy' hp
    · right; left
      refine ⟨by omega, ?_⟩
      rw [show ((y : Int) - 0).toNat = d0.2 by omega, show ((x : Int) - -1).toNat = d0.1 by omega]; exact m3
    · right; right; left
      refine ⟨by omega, ?_⟩
      rw [show ((y : Int) - 0).toNat = d0.2 by omega, show ((x : Int) - 1).toNat = d0.1 by omega]; exact m3
    · left
      refine ⟨by omega, ?_⟩
      rw [show ((y : Int) - -1).toNat = d0.2 by omega, show ((x : Int) - 0).toNat = d0.1 by omega]; exact m3
    · right; right; right
      refine ⟨by omega, ?_⟩
      rw [show ((y : Int) - 1).toNat = d0.2 by omega, show ((x : Int) - 0).toNat = d0.1 by omega]; exact m3
  · have key : ∀ (e s : Int) (hn : ∀ d : Nat × Nat, ((d.1 : Int) + e, (d.2 : Int) + s) ∈ nb d), ((0 ≤ (y : Int) - s ∧ (y : Int) - s < 12 ∧ x < 12 ∧ 0 ≤ (x : Int) - e) ∧ (f ((y : Int) - s).toNat).testBit ((x : Int) - e).toNat = true) →
        ∃ d, d ∈ (dots f).flatMap nb ∧ plB d.1 d.2 = true ∧ d.1 = x ∧ d.2 = y := by
      rintro e s hn ⟨⟨h1, h2, h3, h4⟩, hb⟩
      have hl := bit_lt h (y := ((y : Int) - s).toNat) (by omega) hb
      refine ⟨_, List.mem_flatMap.2 ⟨(((x : Int) - e).toNat, ((y : Int) - s).toNat), mem_dots.2 ⟨hl, by simp only; omega, hb⟩, hn _⟩, plB_iff.2 ?_, ?_, ?_⟩
      · simp only; omega
      · simp only; omega
      · simp only; omega
    rintro (hq | hq | hq | hq)
    · exact key 0 (-1) (fun d => by simp [nb]; omega) hq
    · exact key (-1) 0 (fun d => by simp [nb]; omega) hq
    · exact key 1 0 (fun d => by simp [nb]) hq
    · exact key 0 1 (fun d => by simp [nb]) hq
theorem growI_lt {f : Nat → Nat} (hf : ∀ k, f k < 65536) (k : Nat) : growI f k < 65536 := by
  have hm : ∀ e s k, movedI f e s 12 k < 65536 := by
    intro e s k
    unfold movedI
    split
    · exact movedRow_lt (hf _) _
    · decide
  unfold growI
  exact joinF_lt (joinF_lt (joinF_lt (joinF_lt hf (hm _ _)) (hm _ _)) (hm _ _)) (hm _ _) k
set_option maxHeartbeats 1000000 in
theorem grow_any (B : Nat) (f : Nat → Nat) (w : World) (hf : ∀ k, f k < 65536) (hB : Blk w B 27 f) :
    Calls Tryd.prog 79 #[.pointer (some ⟨B, 0, none⟩)] w fun e' w' => e' = .returned (.agg (FC (growS f))) ∧ Below w.heap.size w w' := by
  have b1 := (hB.alloc (.cells (FC zeroF) 27)).alloc (.cells (FC zeroF) 27)
  have b2 := (Blk.new w 27 zeroF).alloc (.cells (FC zeroF) 27)
  have b3 := Blk.new (w.alloc (.cells (FC zeroF) 27)) 27 zeroF
  rw [World.size_alloc] at b3
  have h0 := ((Below.refl w.heap.size w).alloc (Nat.le_refl _) (.cells (FC zeroF) 27)).alloc (by simp) (.cells (FC zeroF) 27)
  have hlB := hB.lt
  have bB := hB.alloc (.cells (FC zeroF) 27)
  rw [FC_zero] at b1 b2 b3 h0 bB
  clear hB
  go_enter Tryd.func79, Tryd.ntmps79
  go_wp2_with (first | (refine wpList_load_fr rfl 27 22 _ rfl _ rfl (by first | exact b1 | exact bB) Tryd.underlying27 (by kernel_rfl) ?_) | (refine wpList_store_fr (f := f) rfl 27 _ _ rfl _ rfl b3 rfl (by kernel_rfl) ?_))
  clear bB
  have hsz := h0.size
  replace b1 := b1.setRowOther (FC f) (show B ≠ w.heap.size + 1 by omega)
  replace b2 := b2.setRowOther (FC f) (show w.heap.size ≠ w.heap.size + 1 by omega)
  replace b3 := b3.setRow f
  replace h0 := below_setRow h0 (show w.heap.size ≤ w.heap.size + 1 by omega) (FC f)
  generalize World.setRow _ _ _ = w2 at b1 b2 b3 h0 ⊢
  have hlt2 := b2.lt
  generalize hB3 : w.heap.size + 1 = B3 at *
  refine (dots_any _ f _ hf b1).mono ?_
  rintro e' w3 ⟨v, rfl, hown, hb1⟩
  have hlt3 := b3.lt
  replace b2 := b2.below hb1 b2.lt
  replace b3 := b3.below hb1 b3.lt
  replace h0 := grown_below h0 hb1 h0.size
  obtain ⟨p, cap, rfl, _⟩ := dots_shape hown
  clear hb1 b1
  go_wp2_with fail
  go_loopw [5] (fun i wr => ∃ k : Nat, k ≤ (dots f).length ∧ i = .int .i64 k ∧ Blk wr w.heap.size 27 zeroF ∧ Blk wr B3 27 (putAll (((dots f).take k).flatMap nb) f) ∧ wr.ownsRow w2.heap.size 64 2 (.slice p (dots f).length cap) (dots f).length (dotCells (dots f)) ∧ Below w.heap.size w wr) (fun i _ => (dots f).length - (intOf i).toNat)
  case atStart => exact ⟨0, by omega, rfl, b2, b3, hown, h0⟩
  case round =>
    obtain ⟨k, hk, rfl, b2, b3, hown, hb⟩ := hrel
    have hlen : (dots f).length ≤ 144 := dotsTo_length f 144
    by_cases hlt' : k < (dots f).length
    · have hd : (dots f)[k]? = some (dots f)[k] := List.getElem?_eq_getElem hlt'
      generalize hdd : (dots f)[k] = d at hd
      have hm := mem_dots.1 (List.mem_of_getElem? hd)
      have hstep : ((dots f).take (k + 1)).flatMap nb = ((dots f).take k).flatMap nb ++ nb d := by
        rw [List.take_add_one, hd, List.flatMap_append]; simp
      have HS := Lib.hid hstep
      obtain ⟨p', cap', hpc, hsh⟩ := dots_shape hown
      cases hpc
      obtain ⟨g, rfl, c1, c2⟩ := hsh k d hd
      have hg := (hown.lt g rfl).1
      have hm1 := hm.1
      have hm2 := hm.2.1
      clear hd hdd hsh hstep hm
      have l1 := putAll_lt (((dots f).take k).flatMap nb) hf
      go_wp2_with (go_at_call 68; refine (put_any _ _ _ _ _ (putAll_lt _ hf) b3).mono ?_; rintro e' w5 ⟨rfl, hw, b3'⟩)
      have l2 := putF_lt l1 ((d.1 : Int) - 1) (d.2 : Int)
      refine (put_any _ _ _ _ _ l2 b3').mono ?_
      rintro e' w6 ⟨rfl, hw6, b4⟩
      have l3 := putF_lt l2 ((d.1 : Int) + 1) (d.2 : Int)
      go_wp2_with fail
      refine (put_any _ _ _ _ _ l3 b4).mono ?_
      rintro e' w7 ⟨rfl, hw7, b5⟩
      have l4 := putF_lt l3 (d.1 : Int) ((d.2 : Int) - 1)
      go_wp2_with fail
      refine (put_any _ _ _ _ _ l4 b5).mono ?_
      rintro e' w8 ⟨rfl, hw8, b6⟩
      replace hw := ((hw.trans hw6).trans hw7).trans hw8
      clear hw6 hw7 hw8 b3' b4 b5 l1 l2 l3 l4
      go_wp2_with fail
      go_roundw
      case rel =>
        go_light
        refine ⟨k + 1, by omega, by go_num, hw.blk b2 (by omega), ?_, hown.kept hw.grown (.inr (by simp [Value.ownBlock]; omega)), hw.below hb (by omega) hb.size⟩
        rw [HS.out, putAll_append]
        exact b6
      case measure => simp [intOf]; omega
    · have hk' : k = (dots f).length := by omega
      subst hk'
      go_wp2_with (first | (refine wpList_load_fr rfl 27 22 _ rfl _ rfl b3 Tryd.underlying27 (by kernel_rfl) ?_) | (refine wpList_store_fr rfl 27 _ _ rfl _ rfl b2 rfl (by kernel_rfl) ?_))
      refine bodyPost_ret_fr (p := 2) (ty := 27) (e := 22) rfl rfl (b2.setRow _) Tryd.underlying27 (by kernel_rfl) rfl ⟨?_, below_setRow hb (by omega) _⟩
      (try rw [List.take_of_length_le (Nat.le_refl _)])
      rfl
set_option maxHeartbeats 1000000 in
theorem specGrowFrame_any (f : Nat → Nat) (hf : ∀ k, f k < 65536) (w : World) :
    Calls Tryd.prog 31 #[.agg (FC f)] w fun e' w' => e' = .returned (.tuple #[.agg (FC (ifC (okC f) (growI f))), .int .i64 (okC f)]) ∧ Below w.heap.size w w' := by
  have b1 := (Blk.new w 27 f).alloc (.cells (FC zeroF) 27)
  have b2 := Blk.new (w.alloc (.cells (FC f) 27)) 27 zeroF
  rw [World.size_alloc] at b2
  have h0 := ((Below.refl w.heap.size w).alloc (Nat.le_refl _) (.cells (FC f) 27)).alloc (by simp) (.cells (FC zeroF) 27)
  rw [FC_zero] at b1 b2 h0
  rcases okC_cases f with ⟨ho, ha⟩ | ⟨ho, ha⟩
  · have hv : ifC 1 (growI f) = zeroF := by simp [ifC]
    go_enter Tryd.func31, Tryd.ntmps31
    go_wp2_with fail
    generalize ((w.alloc _).alloc _) = w1 at *
    refine (ok_any _ f _ b1).mono ?_
    rintro e' w' ⟨rfl, rfl⟩
    go_wp2_with (refine wpList_store_fr (f := zeroF) rfl 27 _ _ rfl _ rfl b2 rfl (by kernel_rfl) ?_)
    exact bodyPost_ret_fr2 (p := 2) (u := 3) (ty := 27) (e := 22) rfl rfl (b2.setRow _) Tryd.underlying27 (by kernel_rfl) rfl ⟨by rw [ha, hv]; rfl, below_setRow h0 (by omega) _⟩
  · have hv : ifC 0 (growI f) = growI f := by simp [ifC]
    have cG := fun w1 b1 => grow_any w.heap.size f w1 hf b1
    rw [FC_ext (grow_eq ho)] at cG
    go_enter Tryd.func31, Tryd.ntmps31
    go_wp2_with fail
    generalize ((w.alloc _).alloc _) = w1 at *
    refine (ok_any _ f _ b1).mono ?_
    rintro e' w' ⟨rfl, rfl⟩
    go_wp2_with (first | (go_at_call 79; refine (cG _ b1).mono ?_; rintro e' w2 ⟨rfl, hb1⟩; replace b2 := b2.below hb1 b2.lt; replace h0 := grown_below h0 hb1 h0.size) | (refine wpList_store_fr rfl 27 _ _ rfl _ rfl b2 rfl (by kernel_rfl) ?_))
    exact bodyPost_ret_fr2 (p := 2) (u := 3) (ty := 27) (e := 22) rfl rfl (b2.setRow _) Tryd.underlying27 (by kernel_rfl) rfl ⟨by rw [ha, hv]; rfl, below_setRow h0 (by omega) _⟩
end Go.Proofs.YthkpefdjhdemeaaDoor
