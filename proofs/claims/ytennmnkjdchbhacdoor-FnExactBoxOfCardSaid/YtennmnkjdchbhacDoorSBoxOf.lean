/- spec: l01Box, BoxOf. -/
import Derived.Test.YtennmnkjdchbhacDoorRows
import Derived.Test.YtennmnkjdchbhacDoorIBoxOf
import Derived.Test.YtennmnkjdchbhacDoorSMove
namespace Go.Proofs.YtennmnkjdchbhacDoor
set_option maxRecDepth 100000
open Go.RowKit
set_option linter.unusedVariables false
theorem min2_any (a b : Nat) (w : World) : Calls Tryd.prog 59 #[.int .i64 a, .int .i64 b] w fun e w' => e = .returned (.int .i64 ((min a b : Nat) : Int)) ∧ w = w' := by
  by_cases h : a < b
  · have e1 : (a : Int) < (b : Int) := by omega
    have hv : min a b = a := by omega
    rw [hv]; clear hv h
    go_enter Tryd.func59, Tryd.ntmps59
    go_wp2
    go_ret
    exact ⟨rfl, rfl⟩
  · have e1 : ¬ (a : Int) < (b : Int) := by omega
    have hv : min a b = b := by omega
    rw [hv]; clear hv h
    go_enter Tryd.func59, Tryd.ntmps59
    go_wp2
    go_ret
    exact ⟨rfl, rfl⟩
theorem max2_any (a b : Nat) (w : World) : Calls Tryd.prog 60 #[.int .i64 a, .int .i64 b] w fun e w' => e = .returned (.int .i64 ((max a b : Nat) : Int)) ∧ w = w' := by
  by_cases h : b < a
  · have e1 : (b : Int) < (a : Int) := by omega
    have hv : max a b = a := by omega
    rw [hv]; clear hv h
    go_enter Tryd.func60, Tryd.ntmps60
    go_wp2
    go_ret
    exact ⟨rfl, rfl⟩
  · have e1 : ¬ (b : Int) < (a : Int) := by omega
    have hv : max a b = b := by omega
    rw [hv]; clear hv h
    go_enter Tryd.func60, Tryd.ntmps60
    go_wp2
    go_ret
    exact ⟨rfl, rfl⟩
theorem minX_lt (l : List (Nat × Nat)) : minX l ≤ 12 := (foldl_min l 12).2.1
theorem maxX_lt (l : List (Nat × Nat)) (h : ∀ d ∈ l, d.1 < 12) : maxX l < 12 := by
  rcases (foldl_max l 0).2.2 with e | ⟨d, hd, e⟩
  · unfold maxX; omega
  · have := h d hd; unfold maxX; omega
def sbV (f : Nat → Nat) : Array Value := if dots f = [] then BX 0 0 0 0 else bxA f
def sbB (f : Nat → Nat) : Bool := decide (dots f ≠ [])
set_option maxHeartbeats 2000000 in
theorem sbox_any (B : Nat) (f : Nat → Nat) (w : World) (hf : ∀ k, f k < 65536) (hB : Blk w B 33 f) :
    Calls Tryd.prog 40 #[.pointer (some ⟨B, 0, none⟩)] w fun e w' => e = .returned (.tuple #[.agg (sbV f), .bool (sbB f)]) ∧ Below w.heap.size w w' := by
  have b1 := hB.alloc (.cells (BX 0 0 0 0) 43)
  have b2 := Row.new w 43 (BX 0 0 0 0)
  have h0 := (Below.refl w.heap.size w).alloc (Nat.le_refl _) (.cells (BX 0 0 0 0) 43)
  have hlen : (dots f).length ≤ 144 := dotsTo_length f 144
  have hall : ∀ d ∈ dots f, d.1 < 12 ∧ d.2 < 12 := fun d hd => ⟨(mem_dots.1 hd).1, (mem_dots.1 hd).2.1⟩
  clear hB
  unfold BX at b1 b2 h0
  have HV := Lib.hid (show @Eq (Nat → Nat) f f from rfl)
  go_enter Tryd.func40, Tryd.ntmps40
  go_wp2_with fail
  generalize World.alloc _ _ = w1 at *
  have h1 := b2.lt
  refine (dots_any _ f _ hf b1).mono ?_
  rintro e' w2 ⟨v, rfl, hown, hb1⟩
  replace b2 := b2.below hb1 b2.lt
  replace h0 := grown_below h0 hb1 h0.size
  clear hb1 b1
  obtain ⟨p, cap, rfl, hsh⟩ := dots_shape hown
  have HL := Lib.hid hlen
  have HA := Lib.hid hall
  by_cases hd : dots f = []
  · have HD := Lib.hid hd
    have e0 : (((dots f).length : Nat) : Int) = 0 := by rw [hd]; rfl
    have e1 : ((((dots f).length : Nat) : Int) == 0) = true := by rw [e0]; rfl
    clear hd hsh hown hlen hall e0
    generalize (dots f).length = n at *
    go_wp2_with (refine wpList_store_row (cs := BX 0 0 0 0) rfl 43 _ _ rfl _ rfl b2 rfl rfl (BX_one _ _ _ _) (by kernel_rfl) ?_)
    exact bodyPost_ret_row2 (p := 2) (u := 3) (ty := 43) rfl rfl (b2.setRow _) Tryd.underlying43 rfl (by kernel_rfl) rfl ⟨by unfold sbV sbB; rw [if_pos HD.out, decide_eq_false (fun h => h HD.out)]; rfl, below_setRow h0 (by omega) _⟩
  · have HD := Lib.hid hd
    have hpos : 0 < (dots f).length := List.length_pos_iff.2 hd
    have e1 : ((((dots f).length : Nat) : Int) == 0) = false := by simp; omega
    obtain ⟨dA, hA0, hA1⟩ := first_y hd
    obtain ⟨dB, hB0, hB1⟩ := last_y hd
    have ya := (hall _ (List.mem_of_getElem? hA0)).2
    have yb := (hall _ (List.mem_of_getElem? hB0)).2
    rw [hA1] at ya
    rw [hB1] at yb
    clear hsh hd hall
    have hwx := maxX_lt (dots f) (fun d hd => (HA.out d hd).1)
    have hwn := minX_lt (dots f)
    go_wp2_with fail
    go_loopw [5, 6, 7] (fun a b i wr => ∃ k : Nat, k ≤ (dots f).length ∧ i = .int .i64 k ∧ a = .int .i64 (minX ((dots f).take k) : Nat) ∧ b = .int .i64 (maxX ((dots f).take k) : Nat) ∧ Row wr w.heap.size 43 (BX 0 0 0 0) ∧ wr.ownsRow w1.heap.size 65 2 (.slice p (dots f).length cap) (dots f).length (dotCells (dots f)) ∧ Below w.heap.size w wr) (fun _ _ i _ => (dots f).length - (intOf i).toNat)
    case atStart => exact ⟨0, by omega, rfl, rfl, rfl, b2, hown, h0⟩
    case round =>
      clear b2 hown h0
      obtain ⟨k, hk, rfl, rfl, rfl, b2, hown, h0⟩ := hrel
      obtain ⟨p', cap', hpc, hsh⟩ := dots_shape hown
      cases hpc
      by_cases hlt : k < (dots f).length
      · have hdk : (dots f)[k]? = some (dots f)[k] := List.getElem?_eq_getElem hlt
        generalize hdd : (dots f)[k] = d at hdk
        obtain ⟨g, rfl, c1, c2⟩ := hsh k d hdk
        have hd12 := (HA.out d (List.mem_of_getElem? hdk)).1
        have HS := Lib.hid (show (dots f).take (k + 1) = (dots f).take k ++ [d] by rw [List.take_add_one, hdk]; rfl)
        have hmn := minX_lt ((dots f).take k)
        have hmx := maxX_lt ((dots f).take k) (fun d hd => (HA.out d (List.mem_of_mem_take hd)).1)
        have cN := fun w => min2_any (minX ((dots f).take k)) d.1 w
        have cM := fun w => max2_any (maxX ((dots f).take k)) d.1 w
        have k1 : IntKind.i64.wrap (d.1 : Int) = d.1 := IntWalk.i64_in _ (by omega)
        clear hsh hdk hdd c2 hA0 hB0 hA1 hB1
        go_wp2_with (first | (go_at_call 59; refine (cN _).mono ?_; rintro e' w9 ⟨rfl, rfl⟩) | (go_at_call 60; refine (cM _).mono ?_; rintro e' w9 ⟨rfl, rfl⟩))
        go_roundw
        case rel => exact ⟨k + 1, by omega, by go_num, by rw [HS.out, minX_snoc], by rw [HS.out, maxX_snoc], b2, hown, h0⟩
        case measure => simp [intOf]; omega
      · obtain rfl : k = (dots f).length := by omega
        have hl0 := b2.lt
        obtain ⟨g, rfl, _, cA⟩ := hsh 0 dA hA0
        obtain ⟨g', hg', _, cB⟩ := hsh _ dB hB0
        cases hg'
        rw [hA1] at cA
        rw [hB1] at cB
        rw [List.take_length]
        clear hsh hA0 hB0 hA1 hB1 hlt hk
        generalize hn : (dots f).length = n at *
        generalize hmn : minX (dots f) = mn at *
        generalize hmx : maxX (dots f) = mx at *
        generalize hya : yA f = y0 at *
        generalize hyb : yB f = y1 at *
        have HR := Lib.hid (show bxA f = BX mn y0 ((mx : Int) - (mn : Int) + 1) ((y1 : Int) - (y0 : Int) + 1) by unfold bxA; rw [hmn, hmx, hya, hyb])
        clear hmn hmx hya hyb hn hown
        have q1 : IntKind.i64.wrap ((n : Int) - 1) = ((n - 1 : Nat) : Int) := by rw [IntKind.wrap_i64]; omega
        have q2 : IntKind.i64.wrap (y0 : Int) = y0 := IntWalk.i64_in _ (by omega)
        have q3 : IntKind.i64.wrap (y1 : Int) = y1 := IntWalk.i64_in _ (by omega)
        have q4 : IntKind.i8.wrap (mn : Int) = mn := by simp [IntKind.wrap, IntKind.bits, IntKind.signed]; omega
        have q5 : IntKind.i8.wrap (y0 : Int) = y0 := by simp [IntKind.wrap, IntKind.bits, IntKind.signed]; omega
        have q6 : IntKind.i64.wrap ((mx : Int) - (mn : Int)) = (mx : Int) - (mn : Int) := IntWalk.i64_in _ (by omega)
        have q7 : IntKind.i64.wrap ((mx : Int) - (mn : Int) + 1) = (mx : Int) - (mn : Int) + 1 := IntWalk.i64_in _ (by omega)
        have q8 : IntKind.i8.wrap ((mx : Int) - (mn : Int) + 1) = (mx : Int) - (mn : Int) + 1 := by
          generalize hz : (mx : Int) - (mn : Int) + 1 = z
          have : -128 ≤ z ∧ z ≤ 127 := by omega
          simp [IntKind.wrap, IntKind.bits, IntKind.signed]; omega
        have q9 : IntKind.i64.wrap ((y1 : Int) - (y0 : Int)) = (y1 : Int) - (y0 : Int) := IntWalk.i64_in _ (by omega)
        have q10 : IntKind.i64.wrap ((y1 : Int) - (y0 : Int) + 1) = (y1 : Int) - (y0 : Int) + 1 := IntWalk.i64_in _ (by omega)
        have q11 : IntKind.i8.wrap ((y1 : Int) - (y0 : Int) + 1) = (y1 : Int) - (y0 : Int) + 1 := by
          generalize hz : (y1 : Int) - (y0 : Int) + 1 = z
          have : -128 ≤ z ∧ z ≤ 127 := by omega
          simp [IntKind.wrap, IntKind.bits, IntKind.signed]; omega
        go_wp2_with (refine wpList_store_row (cs := BX mn y0 ((mx : Int) - (mn : Int) + 1) ((y1 : Int) - (y0 : Int) + 1)) rfl 43 _ _ rfl _ rfl b2 rfl rfl (BX_one _ _ _ _) (by kernel_rfl) ?_)
        exact bodyPost_ret_row2 (p := 2) (u := 3) (ty := 43) rfl rfl (b2.setRow _) Tryd.underlying43 rfl (by kernel_rfl) rfl ⟨by unfold sbV sbB; rw [if_neg HD.out, decide_eq_true HD.out, HR.out]; rfl, below_setRow h0 (by omega) _⟩
set_option maxHeartbeats 1000000 in
theorem specBoxOf_any (f : Nat → Nat) (hf : ∀ k, f k < 65536) (w : World) :
    Calls Tryd.prog 22 #[.agg (FC f)] w fun e w' => e = .returned (.tuple #[.agg (bxV f), .int .i64 (bxC f)]) ∧ Below w.heap.size w w' := by
  have b1 := (Blk.new w 33 f).alloc (.cells (BX 0 0 0 0) 43)
  have b2 := Row.new (w.alloc (.cells (FC f) 33)) 43 (BX 0 0 0 0)
  rw [World.size_alloc] at b2
  have h0 := ((Below.refl w.heap.size w).alloc (Nat.le_refl _) (.cells (FC f) 33)).alloc (by simp) (.cells (BX 0 0 0 0) 43)
  unfold BX at b1 b2 h0
  have cB := fun w1 b1 => sbox_any w.heap.size f w1 hf b1
  rcases bx_cases f with ⟨ho, hc, hv⟩ | ⟨ho, hd, hc, hv⟩ | ⟨ho, hd, hc, hv⟩
  · have HV := Lib.hid hv
    have HC := Lib.hid hc
    clear hv hc
    go_enter Tryd.func22, Tryd.ntmps22
    go_wp2_with fail
    generalize World.alloc _ _ = w1 at *
    refine (ok_any _ f _ b1).mono ?_
    rintro e' w' ⟨rfl, rfl⟩
    rw [ho]
    go_wp2_with (refine wpList_store_row (cs := BX 0 0 0 0) rfl 43 _ _ rfl _ rfl b2 rfl rfl (BX_one _ _ _ _) (by kernel_rfl) ?_)
    exact bodyPost_ret_row2 (p := 2) (u := 3) (ty := 43) rfl rfl (b2.setRow _) Tryd.underlying43 rfl (by kernel_rfl) rfl ⟨by rw [HV.out, HC.out]; rfl, below_setRow h0 (by omega) _⟩
  · have HV := Lib.hid hv
    have HC := Lib.hid hc
    have e1 : sbV f = BX 0 0 0 0 := if_pos hd
    have e2 : sbB f = false := decide_eq_false (fun h => h hd)
    rw [e1, e2] at cB
    clear hv hc hd e1 e2
    go_enter Tryd.func22, Tryd.ntmps22
    go_wp2_with fail
    generalize World.alloc _ _ = w1 at *
    refine (ok_any _ f _ b1).mono ?_
    rintro e' w' ⟨rfl, rfl⟩
    rw [ho]
    go_wp2_with fail
    refine (cB _ b1).mono ?_
    rintro e' w2 ⟨rfl, hb2⟩
    replace b2 := (b2.below hb2 b2.lt).alloc (.cells (BX 0 0 0 0) 43)
    replace h0 := (grown_below h0 hb2 h0.size)
    have hq := h0.size
    replace h0 := h0.alloc h0.size (.cells (BX 0 0 0 0) 43)
    go_wp2_with (first | (refine wpList_store_row (cs := BX 0 0 0 0) rfl 43 _ _ rfl _ rfl (Row.new w2 43 _) rfl rfl (BX_one _ _ _ _) (by kernel_rfl) ?_; rw [setRow_new]) | (refine wpList_store_row (cs := BX 0 0 0 0) rfl 43 _ _ rfl _ rfl b2 rfl rfl (BX_one _ _ _ _) (by kernel_rfl) ?_))
    exact bodyPost_ret_row2 (p := 2) (u := 3) (ty := 43) rfl rfl (b2.setRow _) Tryd.underlying43 rfl (by kernel_rfl) rfl ⟨by rw [HV.out, HC.out]; rfl, below_setRow h0 (by omega) _⟩
  · have HV := Lib.hid hv
    have HC := Lib.hid hc
    have e1 : sbV f = bxA f := if_neg hd
    have e2 : sbB f = true := decide_eq_true hd
    rw [e1, e2] at cB
    clear hv hc hd e1 e2
    go_enter Tryd.func22, Tryd.ntmps22
    go_wp2_with fail
    generalize World.alloc _ _ = w1 at *
    refine (ok_any _ f _ b1).mono ?_
    rintro e' w' ⟨rfl, rfl⟩
    rw [ho]
    go_wp2_with fail
    refine (cB _ b1).mono ?_
    rintro e' w2 ⟨rfl, hb2⟩
    replace b2 := (b2.below hb2 b2.lt).alloc (.cells (bxA f) 43)
    have b3 := Row.new w2 43 (bxA f)
    replace h0 := (grown_below h0 hb2 h0.size)
    have hq := h0.size
    replace h0 := h0.alloc h0.size (.cells (bxA f) 43)
    go_wp2_with (first | (refine wpList_store_row (cs := bxA f) rfl 43 _ _ rfl _ rfl (Row.new w2 43 _) rfl rfl (bxA_one f) (by kernel_rfl) ?_; rw [setRow_new]) | (refine wpList_load_row rfl 43 _ rfl _ rfl _ _ _ _ b3 Tryd.underlying43 rfl (by kernel_rfl) ?_) | (refine wpList_store_row (cs := bxA f) rfl 43 _ _ rfl _ rfl b2 rfl rfl (bxA_one f) (by kernel_rfl) ?_))
    exact bodyPost_ret_row2 (p := 2) (u := 3) (ty := 43) rfl rfl (b2.setRow _) Tryd.underlying43 rfl (by kernel_rfl) rfl ⟨by rw [HV.out, HC.out]; rfl, below_setRow h0 (by omega) _⟩
end Go.Proofs.YtennmnkjdchbhacDoor
