/- impl: Frame.box, BoxOf. -/
import Derived.Test.YtennmnkjdchbhacDoorRows
import Derived.Test.YtennmnkjdchbhacDoorLen16
import Derived.Test.YtennmnkjdchbhacDoorBx
import Derived.Test.YtennmnkjdchbhacDoorIValid
namespace Go.Proofs.YtennmnkjdchbhacDoor
set_option maxRecDepth 100000
open Go.RowKit
set_option linter.unusedVariables false
def bxA (f : Nat → Nat) : Array Value := BX (minX (dots f)) (yA f) ((maxX (dots f) : Int) - (minX (dots f) : Int) + 1) ((yB f : Int) - (yA f : Int) + 1)
def bxC (f : Nat → Nat) : Int := if okF f then (if dots f = [] then 6 else 0) else 1
def bxV (f : Nat → Nat) : Array Value := if bxC f = 0 then bxA f else BX 0 0 0 0
theorem u16_or_nat' {a b : Nat} (ha : a < 65536) (hb : b < 65536) : bits .or .u16 (a : Int) (b : Int) = ((a ||| b : Nat) : Int) := u16_or_nat a b ha hb
set_option maxHeartbeats 1000000 in
theorem box_any (f : Nat → Nat) (ho : okF f = true) (hf : ∀ k, f k < 65536) (h0 : dots f ≠ []) (w : World) (hT : Tab w 0 DBC) :
    Calls Tryd.prog 41 #[.agg (FC f)] w fun e w' => e = .returned (.agg (bxA f)) ∧ Below w.heap.size w w' := by
  obtain ⟨i0, hi0⟩ : ∃ i, Tryd.prog.info? 28 = some i := ⟨_, rfl⟩
  have b1 := (Blk.new w 33 f).alloc (.cells (BX 0 0 0 0) 43)
  have b2 := Row.new (w.alloc (.cells (FC f) 33)) 43 (BX 0 0 0 0)
  rw [World.size_alloc] at b2
  have hb0 := ((Below.refl w.heap.size w).alloc (Nat.le_refl _) (.cells (FC f) 33)).alloc (by simp) (.cells (BX 0 0 0 0) 43)
  have hgl := hT.lt
  have T1 := (hT.alloc (.cells (FC f) 33)).alloc (.cells (BX 0 0 0 0) 43)
  clear hT
  unfold BX at b1 b2 hb0 T1
  have cX := fun w (h : Tab w 0 DBC) => span_any (cols f 12) (minX (dots f)) (maxX (dots f)) (by
    have : ∀ k, k ≤ 12 → cols f k < 2 ^ 12 := by
      intro k
      induction k with
      | zero => intro _; simp [cols]
      | succ k ih => intro hk; exact Nat.or_lt_two_pow (ih (by omega)) (by have := okF_iff.1 ho k (by omega); omega)
    exact this 12 (by omega)) (minX_spec h0) (maxX_spec ho h0) w h
  have cY := fun w (h : Tab w 0 DBC) => span_any (rws f 12) (yA f) (yB f) (rws_lt f 12 (by omega)) (yA_spec ho h0) (yB_spec ho h0) w h
  clear h0
  go_enter Tryd.func41, Tryd.ntmps41
  go_wp2_with (refine wpList_load_fr rfl 33 28 _ rfl _ rfl b1 Tryd.underlying33 (by kernel_rfl) ?_)
  generalize World.alloc _ _ = w1 at *
  go_loopw [3, 4, 12] (fun c r i wr => ∃ k : Nat, k ≤ 12 ∧ i = .int .i64 k ∧ c = .int .u16 (cols f k : Nat) ∧ r = .int .u16 (rws f k : Nat) ∧ wr = w1) (fun _ _ i _ => 12 - (intOf i).toNat)
  case atStart => exact ⟨0, by omega, rfl, rfl, rfl, rfl⟩
  case round =>
    obtain ⟨k, hk, rfl, rfl, rfl, rfl⟩ := hrel
    by_cases hlt : k < 12
    · have ix := fun w => run_index_fr (P := Tryd.prog) w f hlt Tryd.underlying33 (by kernel_rfl) hi0 (by kernel_rfl)
      have hc := cols_lt hf k
      have hr : rws f k < 65536 := Nat.lt_of_lt_of_le (rws_lt f k hk) (Nat.le_trans (Nat.pow_le_pow_right (n := 2) (by decide) hk) (show 2 ^ 12 ≤ 65536 by decide))
      have k1 := u16_or_nat' hc (hf k)
      have k2 := u16_or_pow hr (show k < 16 by omega)
      clear hi0 hc hr
      by_cases h0 : f k = 0
      · have e0 : (((f k : Nat) : Int) == 0) = true := by simp [h0]
        have HC := Lib.hid (show cols f (k + 1) = cols f k ||| f k from rfl)
        have HR := Lib.hid (show rws f (k + 1) = rws f k by simp [rws, h0])
        clear h0
        go_wp2
        go_roundw
        case rel => exact ⟨k + 1, by omega, by go_num, by rw [HC.out], by rw [HR.out], by first | trivial | rfl⟩
        case measure => simp [intOf]; omega
      · have e0 : (((f k : Nat) : Int) == 0) = false := by simp [h0]
        have HC := Lib.hid (show cols f (k + 1) = cols f k ||| f k from rfl)
        have HR := Lib.hid (show rws f (k + 1) = rws f k ||| 2 ^ k by simp [rws, h0])
        clear h0
        go_wp2
        go_roundw
        case rel => exact ⟨k + 1, by omega, by go_num, by rw [HC.out], by rw [HR.out], by first | trivial | rfl⟩
        case measure => simp [intOf]; omega
    · obtain rfl : k = 12 := by omega
      clear hi0 hlt
      go_wp2_with (first | (go_at_call 61; refine (cX _ T1).mono ?_; clear cX; rintro e' w' ⟨rfl, rfl⟩) | (go_at_call 61; refine (cY _ T1).mono ?_; rintro e' w' ⟨rfl, rfl⟩) | (refine wpList_store_row (cs := bxA f) rfl 43 _ _ rfl _ rfl b2 rfl rfl (BX_one _ _ _ _) (by kernel_rfl) ?_))
      exact bodyPost_ret_row (p := 2) (ty := 43) rfl rfl (b2.setRow _) Tryd.underlying43 rfl (by kernel_rfl) rfl ⟨rfl, below_setRow hb0 (by omega) _⟩
theorem bxA_one (f : Nat → Nat) : ∀ v ∈ (bxA f).toList, v.oneCell' = true := BX_one _ _ _ _
theorem build_bx (w : World) : (Instr.build 43 #[]).run Tryd.prog w = .ok (.agg (BX 0 0 0 0)) w := by kernel_rfl
theorem eqF_zero {f : Nat → Nat} (ho : okF f = true) : eqF f zeroF = decide (dots f = []) := by
  rw [Bool.eq_iff_iff, eqF_iff, decide_eq_true_eq, dots_nil_iff ho]
  exact Iff.rfl
theorem bx_cases (f : Nat → Nat) : (okF f = false ∧ bxC f = 1 ∧ bxV f = BX 0 0 0 0) ∨ (okF f = true ∧ dots f = [] ∧ bxC f = 6 ∧ bxV f = BX 0 0 0 0) ∨ (okF f = true ∧ dots f ≠ [] ∧ bxC f = 0 ∧ bxV f = bxA f) := by
  cases ho : okF f with
  | false => left; simp [bxV, bxC, ho]
  | true =>
    right
    by_cases hd : dots f = []
    · left; simp [bxV, bxC, ho, hd]
    · right; simp [bxV, bxC, ho, hd]
set_option maxHeartbeats 1000000 in
theorem implBoxOf_any (f : Nat → Nat) (hf : ∀ k, f k < 65536) (w : World) (hT : Tab w 0 DBC) :
    Calls Tryd.prog 23 #[.agg (FC f)] w fun e w' => e = .returned (.tuple #[.agg (bxV f), .int .i64 (bxC f)]) ∧ Below w.heap.size w w' := by
  obtain ⟨i0, hi0⟩ : ∃ i, Tryd.prog.info? 28 = some i := ⟨_, rfl⟩
  have he := fun w => run_eql_fr (P := Tryd.prog) w f zeroF Tryd.underlying33 (by kernel_rfl) Tryd.underlying28 hi0 (by kernel_rfl)
  clear hi0
  have b1 := (Blk.new w 33 f).alloc (.cells (BX 0 0 0 0) 43)
  have b2 := Row.new (w.alloc (.cells (FC f) 33)) 43 (BX 0 0 0 0)
  rw [World.size_alloc] at b2
  have h0 := ((Below.refl w.heap.size w).alloc (Nat.le_refl _) (.cells (FC f) 33)).alloc (by simp) (.cells (BX 0 0 0 0) 43)
  have hgl := hT.lt
  rcases bx_cases f with ⟨ho, hc, hv⟩ | ⟨ho, hd, hc, hv⟩ | ⟨ho, hd, hc, hv⟩
  · have HV := Lib.hid hv
    have HC := Lib.hid hc
    clear hv hc he
    go_enter Tryd.func23, Tryd.ntmps23
    go_wp2_with (first | (refine wpList_load_fr rfl 33 28 _ rfl _ rfl b1 Tryd.underlying33 (by kernel_rfl) ?_) | (go_at_call 34; refine (valid_any f hf _).mono ?_; rintro e' w1 ⟨rfl, hb1⟩; rw [ho]; replace b1 := b1.below hb1 b1.lt; replace b2 := b2.below hb1 b2.lt; replace h0 := grown_below h0 hb1 h0.size; clear hb1) | (refine wpList_store_row (cs := BX 0 0 0 0) rfl 43 _ _ rfl _ rfl b2 rfl rfl (BX_one _ _ _ _) (by kernel_rfl) ?_))
    exact bodyPost_ret_row2 (p := 2) (u := 3) (ty := 43) rfl rfl (b2.setRow _) Tryd.underlying43 rfl (by kernel_rfl) rfl ⟨by rw [HV.out, HC.out]; rfl, below_setRow h0 (by omega) _⟩
  · have HV := Lib.hid hv
    have HC := Lib.hid hc
    rw [eqF_zero ho, decide_eq_true hd, FC_zero] at he
    clear hv hc hd
    go_enter Tryd.func23, Tryd.ntmps23
    go_wp2_with (first | (refine wpList_load_fr rfl 33 28 _ rfl _ rfl b1 Tryd.underlying33 (by kernel_rfl) ?_) | (go_at_call 34; refine (valid_any f hf _).mono ?_; rintro e' w1 ⟨rfl, hb1⟩; rw [ho]; replace b1 := b1.below hb1 b1.lt; replace b2 := b2.below hb1 b2.lt; replace h0 := grown_below h0 hb1 h0.size; clear hb1) | (refine wpList_store_row (cs := BX 0 0 0 0) rfl 43 _ _ rfl _ rfl b2 rfl rfl (BX_one _ _ _ _) (by kernel_rfl) ?_))
    exact bodyPost_ret_row2 (p := 2) (u := 3) (ty := 43) rfl rfl (b2.setRow _) Tryd.underlying43 rfl (by kernel_rfl) rfl ⟨by rw [HV.out, HC.out]; rfl, below_setRow h0 (by omega) _⟩
  · have HV := Lib.hid hv
    have HC := Lib.hid hc
    rw [eqF_zero ho, decide_eq_false hd, FC_zero] at he
    have cB := fun w1 (hb : Below w.heap.size w w1) => box_any f ho hf hd w1 (hT.below hb hgl)
    clear hv hc hd
    go_enter Tryd.func23, Tryd.ntmps23
    go_wp2_with (first | (refine wpList_load_fr rfl 33 28 _ rfl _ rfl b1 Tryd.underlying33 (by kernel_rfl) ?_) | (go_at_call 34; refine (valid_any f hf _).mono ?_; rintro e' w1 ⟨rfl, hb1⟩; rw [ho]; replace b1 := b1.below hb1 b1.lt; replace b2 := b2.below hb1 b2.lt; replace h0 := grown_below h0 hb1 h0.size; clear hb1) | (go_at_call 41; refine (cB _ h0).mono ?_; rintro e' w2 ⟨rfl, hb2⟩; replace b2 := b2.below hb2 b2.lt; replace h0 := grown_below h0 hb2 h0.size; clear hb2) | (refine wpList_store_row (cs := bxA f) rfl 43 _ _ rfl _ rfl b2 rfl rfl (bxA_one f) (by kernel_rfl) ?_))
    exact bodyPost_ret_row2 (p := 2) (u := 3) (ty := 43) rfl rfl (b2.setRow _) Tryd.underlying43 rfl (by kernel_rfl) rfl ⟨by rw [HV.out, HC.out]; rfl, below_setRow h0 (by omega) _⟩
end Go.Proofs.YtennmnkjdchbhacDoor
