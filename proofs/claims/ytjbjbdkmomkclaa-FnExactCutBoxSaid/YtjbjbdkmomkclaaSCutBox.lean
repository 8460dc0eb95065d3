/- spec: CutBox. -/
import Derived.Test.YtjbjbdkmomkclaaRows
import Derived.Test.YtjbjbdkmomkclaaSMove
import Derived.Test.YtjbjbdkmomkclaaICutBox
namespace Go.Proofs.Ytjbjbdkmomkclaa
set_option maxRecDepth 100000
open Go.RowKit
set_option linter.unusedVariables false
def inBox (x y a b : Int) (d : Nat × Nat) : Bool := inB d.1 x (x + a - 1) && inB d.2 y (y + b - 1)
theorem Wrote.row {B : Nat} {w w' : World} (k : Wrote B w w') {g : Nat} {t : TypeId} {cs : Array Value} (h : Row w g t cs) (hn : g ≠ B) : Row w' g t cs := (k.block g (Row.lt h) hn).trans h
def cutS (f : Nat → Nat) (x y a b : Int) : Nat → Nat := putAll (((dots f).filter (inBox x y a b)).map fun d => ((d.1 : Int), (d.2 : Int))) zeroF
set_option maxHeartbeats 1000000 in
theorem specCutBox_any (f : Nat → Nat) (x y a b : Int) (hf : ∀ k, f k < 65536) (hx : i8B x) (hy : i8B y) (ha : i8B a) (hb : i8B b) (w : World) :
    Calls Try.prog 37 #[.agg (FC f), .agg (BX x y a b)] w fun e' w' => e' = .returned (.tuple #[.agg (FC (ifC (cutC f x y a b) (cutS f x y a b))), .int .i64 (cutC f x y a b)]) ∧ Below w.heap.size w w' := by
  have b1 := ((Blk.new w 41 f).alloc (.cells (BX x y a b) 61)).alloc (.cells (FC zeroF) 41)
  have r1 := (Row.new (w.alloc (.cells (FC f) 41)) 61 (BX x y a b)).alloc (.cells (FC zeroF) 41)
  have b2 := Blk.new ((w.alloc (.cells (FC f) 41)).alloc (.cells (BX x y a b) 61)) 41 zeroF
  rw [World.size_alloc] at r1
  rw [World.size_alloc, World.size_alloc] at b2
  have h0 := (((Below.refl w.heap.size w).alloc (Nat.le_refl _) (.cells (FC f) 41)).alloc (by simp) (.cells (BX x y a b) 61)).alloc (by simp; omega) (.cells (FC zeroF) 41)
  rw [FC_zero] at b1 r1 b2 h0
  cases ho : okF f with
  | false =>
    have hc : cutC f x y a b = 1 := by simp [cutC, ho]
    have hv : ifC 1 (cutS f x y a b) = zeroF := by simp [ifC]
    go_enter Try.func37, Try.ntmps37
    go_wp2_with fail
    generalize ((w.alloc _).alloc _).alloc _ = w1 at *
    refine (ok_any _ f _ b1).mono ?_
    rintro e' w' ⟨rfl, rfl⟩
    go_wp2_with (refine wpList_store_fr (f := zeroF) rfl 41 _ _ rfl _ rfl b2 rfl (by kernel_rfl) ?_)
    exact bodyPost_ret_fr2 (p := 4) (u := 5) (ty := 41) (e := 39) rfl rfl (b2.setRow _) Try.underlying41 (by kernel_rfl) rfl ⟨by rw [hc, hv]; rfl, below_setRow h0 (by omega) _⟩
  | true =>
    cases h1 : boxB x y a b with
    | false =>
      have hc : cutC f x y a b = 2 := by simp [cutC, ho, h1]
      have hv : ifC 2 (cutS f x y a b) = zeroF := by simp [ifC]
      have HB := Lib.hid h1
      clear h1
      go_enter Try.func37, Try.ntmps37
      go_wp2_with fail
      generalize ((w.alloc _).alloc _).alloc _ = w1 at *
      refine (ok_any _ f _ b1).mono ?_
      rintro e' w' ⟨rfl, rfl⟩
      go_wp2_with (first | (refine wpList_load_row rfl 61 _ rfl _ rfl _ _ _ _ r1 Try.underlying61 rfl (by kernel_rfl) ?_) | (go_at_call 75; refine (boxed_any _ _ _ _ hx hy ha hb _).mono ?_; rintro e' w2 ⟨rfl, hb1⟩; rw [HB.out]; replace b1 := b1.below hb1 b1.lt; replace r1 := Row.below r1 hb1 (Row.lt r1); replace b2 := b2.below hb1 b2.lt; replace h0 := grown_below h0 hb1 h0.size; clear hb1) | (refine wpList_store_fr (f := zeroF) rfl 41 _ _ rfl _ rfl b2 rfl (by kernel_rfl) ?_))
      exact bodyPost_ret_fr2 (p := 4) (u := 5) (ty := 41) (e := 39) rfl rfl (b2.setRow _) Try.underlying41 (by kernel_rfl) rfl ⟨by rw [hc, hv]; rfl, below_setRow h0 (by omega) _⟩
    | true =>
      have hc : cutC f x y a b = 0 := by simp [cutC, ho, h1]
      have hv : ifC 0 (cutS f x y a b) = cutS f x y a b := by simp [ifC]
      have HB := Lib.hid h1
      have HC := Lib.hid hc
      clear h1 hc
      go_enter Try.func37, Try.ntmps37
      go_wp2_with fail
      generalize ((w.alloc _).alloc _).alloc _ = w1 at *
      refine (ok_any _ f _ b1).mono ?_
      rintro e' w' ⟨rfl, rfl⟩
      go_wp2_with (first | (refine wpList_load_row rfl 61 _ rfl _ rfl _ _ _ _ r1 Try.underlying61 rfl (by kernel_rfl) ?_) | (go_at_call 75; refine (boxed_any _ _ _ _ hx hy ha hb _).mono ?_; rintro e' w2 ⟨rfl, hb1⟩; rw [HB.out]; replace b1 := b1.below hb1 b1.lt; replace r1 := Row.below r1 hb1 (Row.lt r1); replace b2 := b2.below hb1 b2.lt; replace h0 := grown_below h0 hb1 h0.size; clear hb1))
      have b3 := Blk.new w2 41 zeroF
      have hlt2 := b2.lt
      have hltr := Row.lt r1
      replace b1 := b1.alloc (.cells (FC zeroF) 41)
      replace r1 := Row.alloc r1 (.cells (FC zeroF) 41)
      replace b2 := b2.alloc (.cells (FC zeroF) 41)
      have hsz := h0.size
      replace h0 := h0.alloc h0.size (.cells (FC zeroF) 41)
      rw [FC_zero] at b1 r1 b2 b3 h0
      generalize (w2.alloc _) = w3 at b1 r1 b2 b3 h0 ⊢
      generalize hB3 : w2.heap.size = B3 at *
      refine (dots_any _ f _ hf b1).mono ?_
      rintro e' w4 ⟨v, rfl, hown, hb1⟩
      have hlt3 := b3.lt
      replace r1 := Row.below r1 hb1 (Row.lt r1)
      replace b2 := b2.below hb1 b2.lt
      replace b3 := b3.below hb1 b3.lt
      replace h0 := grown_below h0 hb1 h0.size
      obtain ⟨p, cap, rfl, _⟩ := dots_shape hown
      clear hb1 b1 hB3
      go_wp2_with fail
      go_loopw [8] (fun i wr => ∃ k : Nat, k ≤ (dots f).length ∧ i = .int .i64 k ∧ Row wr (w.heap.size + 1) 61 (BX x y a b) ∧ Blk wr (w.heap.size + 1 + 1) 41 zeroF ∧ Blk wr B3 41 (putAll ((((dots f).take k).filter (inBox x y a b)).map fun d => ((d.1 : Int), (d.2 : Int))) zeroF) ∧ wr.ownsRow w3.heap.size 108 2 (.slice p (dots f).length cap) (dots f).length (dotCells (dots f)) ∧ Below w.heap.size w wr) (fun i _ => (dots f).length - (intOf i).toNat)
      case atStart => exact ⟨0, by omega, rfl, r1, b2, b3, hown, h0⟩
      case round =>
        obtain ⟨k, hk, rfl, r1, b2, b3, hown, hb'⟩ := hrel
        have hlen : (dots f).length ≤ 144 := dotsTo_length f 144
        by_cases hlt' : k < (dots f).length
        · have hd : (dots f)[k]? = some (dots f)[k] := List.getElem?_eq_getElem hlt'
          generalize hdd : (dots f)[k] = d at hd
          have hm := mem_dots.1 (List.mem_of_getElem? hd)
          have hstep : ((((dots f).take (k + 1)).filter (inBox x y a b)).map fun d => ((d.1 : Int), (d.2 : Int))) = ((((dots f).take k).filter (inBox x y a b)).map fun d => ((d.1 : Int), (d.2 : Int))) ++ if inBox x y a b d then [((d.1 : Int), (d.2 : Int))] else [] := by
            rw [List.take_add_one, hd, List.filter_append, List.map_append]
            congr 1
            cases hi : inBox x y a b d <;> simp [hi]
          obtain ⟨p', cap', hpc, hsh⟩ := dots_shape hown
          cases hpc
          obtain ⟨g, rfl, c1, c2⟩ := hsh k d hd
          have hg := (hown.lt g rfl).1
          have hm1 := hm.1
          have hm2 := hm.2.1
          have cx := Row.cell r1 0
          have cy := Row.cell r1 1
          have ca := Row.cell r1 2
          have cb := Row.cell r1 3
          simp [BX] at cx cy ca cb
          clear hd hdd hsh hm
          unfold i8B at hx hy ha hb
          cases hi1 : inB (d.1 : Int) x (x + a - 1) with
          | false =>
            rw [show inBox x y a b d = false by simp [inBox, hi1], if_neg (by simp), List.append_nil] at hstep
            have HS := Lib.hid hstep
            have HI1 := Lib.hid hi1
            have HI2 := HI1
            clear hstep hi1
            go_wp2_with (go_at_call 62; refine (in_any _ _ _ _).mono ?_; rintro e' w' ⟨rfl, rfl⟩; (first | rw [HI1.out] | rw [HI2.out]))
            go_roundw
            case rel =>
              go_light
              refine ⟨k + 1, by omega, by go_num, r1, b2, ?_, hown, hb'⟩
              rw [HS.out]
              exact b3
            case measure => simp [intOf]; omega
          | true =>
            cases hi2 : inB (d.2 : Int) y (y + b - 1) with
            | false =>
              rw [show inBox x y a b d = false by simp [inBox, hi1, hi2], if_neg (by simp), List.append_nil] at hstep
              have HS := Lib.hid hstep
              have HI1 := Lib.hid hi1
              have HI2 := Lib.hid hi2
              clear hstep hi1 hi2
              go_wp2_with (go_at_call 62; refine (in_any _ _ _ _).mono ?_; rintro e' w' ⟨rfl, rfl⟩; (first | rw [HI1.out] | rw [HI2.out]))
              go_roundw
              case rel =>
                go_light
                refine ⟨k + 1, by omega, by go_num, r1, b2, ?_, hown, hb'⟩
                rw [HS.out]
                exact b3
              case measure => simp [intOf]; omega
            | true =>
              rw [show inBox x y a b d = true by simp [inBox, hi1, hi2], if_pos rfl] at hstep
              have HS := Lib.hid hstep
              have HI1 := Lib.hid hi1
              have HI2 := Lib.hid hi2
              clear hstep hi1 hi2
              go_wp2_with (first | (go_at_call 62; refine (in_any _ _ _ _).mono ?_; rintro e' w' ⟨rfl, rfl⟩; (first | rw [HI1.out] | rw [HI2.out])) | (go_at_call 67; refine (put_any _ _ _ _ _ (putAll_lt _ zeroF_lt) b3).mono ?_; rintro e' w5 ⟨rfl, hw, b3'⟩))
              go_roundw
              case rel =>
                go_light
                refine ⟨k + 1, by omega, by go_num, hw.row r1 (by omega), hw.blk b2 (by omega), ?_, hown.kept hw.grown (.inr (by simp [Value.ownBlock]; omega)), hw.below hb' (by omega) hb'.size⟩
                rw [HS.out, putAll_snoc]
                exact b3'
              case measure => simp [intOf]; omega
        · have hk' : k = (dots f).length := by omega
          subst hk'
          go_wp2_with (first | (refine wpList_load_fr rfl 41 39 _ rfl _ rfl b3 Try.underlying41 (by kernel_rfl) ?_) | (refine wpList_store_fr rfl 41 _ _ rfl _ rfl b2 rfl (by kernel_rfl) ?_))
          refine bodyPost_ret_fr2 (p := 4) (u := 5) (ty := 41) (e := 39) rfl rfl (b2.setRow _) Try.underlying41 (by kernel_rfl) rfl ⟨?_, below_setRow hb' (by omega) _⟩
          rw [HC.out, hv]
          (try rw [List.take_of_length_le (Nat.le_refl _)])
          rfl
theorem testBit_block (a x i : Nat) : ((2 ^ a - 1) * 2 ^ x).testBit i = (decide (x ≤ i) && decide (i - x < a)) := by
  rw [Nat.testBit_mul_two_pow, Nat.testBit_two_pow_sub_one]
theorem cut_eq {f : Nat → Nat} (h : okF f = true) {x y a b : Int} (hb : boxB x y a b = true) : ∀ t, t < 12 → cutS f x y a b t = cutI f x y a b t := by
  unfold boxB at hb
  rw [Bool.and_eq_true, spanB_iff, spanB_iff] at hb
  refine frame_ext fun t ht i => ?_
  unfold cutS cutI meetF fillF
  rw [testBit_putAll, show (zeroF t).testBit i = false from Nat.zero_testBit i, Bool.false_or, Nat.testBit_and]
  apply Bool.eq_iff_iff.2
  rw [List.any_eq_true]
  constructor
  · rintro ⟨d, hd, hq⟩
    obtain ⟨d0, hd0, rfl⟩ := List.mem_map.1 hd
    obtain ⟨hd1, hin⟩ := List.mem_filter.1 hd0
    simp only [Bool.and_eq_true, decide_eq_true_eq] at hq
    obtain ⟨hp, hx, hy⟩ := hq
    have e1 : d0.1 = i := by omega
    have e2 : d0.2 = t := by omega
    subst e1 e2
    obtain ⟨m1, m2, m3⟩ := mem_dots.1 hd1
    unfold inBox at hin
    rw [Bool.and_eq_true, inB_iff, inB_iff] at hin
    rw [m3, if_pos (by omega), testBit_block]
    simp only [Bool.true_and, Bool.and_eq_true, decide_eq_true_eq]
    omega
  · intro hq
    rw [Bool.and_eq_true] at hq
    obtain ⟨h1, h2⟩ := hq
    split at h2
    · rename_i hr
      rw [testBit_block] at h2
      simp only [Bool.and_eq_true, decide_eq_true_eq] at h2
      have hi : i < 12 := by omega
      refine ⟨_, List.mem_map.2 ⟨(i, t), List.mem_filter.2 ⟨mem_dots.2 ⟨hi, ht, h1⟩, ?_⟩, rfl⟩, ?_⟩
      · unfold inBox
        rw [Bool.and_eq_true, inB_iff, inB_iff]
        simp only
        omega
      · rw [Bool.and_eq_true]
        exact ⟨plB_iff.2 (by simp only; omega), by simp⟩
    · rw [Nat.zero_testBit] at h2; cases h2
theorem cutFrames_eq (f : Nat → Nat) (x y a b : Int) : FC (ifC (cutC f x y a b) (cutS f x y a b)) = FC (ifC (cutC f x y a b) (cutI f x y a b)) := by
  cases ho : okF f with
  | false => rw [show cutC f x y a b = 1 by simp [cutC, ho]]; rfl
  | true =>
    cases h1 : boxB x y a b with
    | false => rw [show cutC f x y a b = 2 by simp [cutC, ho, h1]]; rfl
    | true => rw [show cutC f x y a b = 0 by simp [cutC, ho, h1]]; exact FC_ext (cut_eq ho h1)
end Go.Proofs.Ytjbjbdkmomkclaa
