/- STROKES: the frame of strokes: impl of InkStrokes. -/
import Derived.Test.YtjbjbdkmomkclaaInk
import Derived.Test.YtjbjbdkmomkclaaIValid
namespace Go.Proofs.Ytjbjbdkmomkclaa
set_option maxRecDepth 100000
open Go.RowKit
set_option linter.unusedVariables false
set_option linter.unusedSimpArgs false
set_option maxHeartbeats 400000 in
theorem strokeBoxE (x y n : Int) (w : World) :
    Calls Try.prog 70 #[.agg #[.int .i8 x, .int .i8 y, .int .i8 n, .bool false]] w fun e w' => e = .returned (.agg #[.int .i8 x, .int .i8 y, .int .i8 n, .int .i8 1]) ∧ Below w.heap.size w w' := by
  have r2 := Row.new (w.alloc (.cells #[.int .i8 x, .int .i8 y, .int .i8 n, .bool false] 97)) 61 #[.int .i8 x, .int .i8 y, .int .i8 n, .int .i8 1]
  have hb := ((Below.refl w.heap.size w).alloc (Nat.le_refl _) (.cells #[.int .i8 x, .int .i8 y, .int .i8 n, .bool false] 97)).alloc (by simp) (.cells #[.int .i8 x, .int .i8 y, .int .i8 n, .int .i8 1] 61)
  rw [World.size_alloc] at r2
  go_enter Try.func70, Try.ntmps70
  go_wp2
  exact bodyPost_ret_row (p := 2) (ty := 61) rfl rfl r2 Try.underlying61 rfl (by kernel_rfl) rfl ⟨rfl, hb⟩
set_option maxHeartbeats 400000 in
theorem strokeBoxD (x y n : Int) (w : World) :
    Calls Try.prog 70 #[.agg #[.int .i8 x, .int .i8 y, .int .i8 n, .bool true]] w fun e w' => e = .returned (.agg #[.int .i8 x, .int .i8 y, .int .i8 1, .int .i8 n]) ∧ Below w.heap.size w w' := by
  have r2 := Row.new (w.alloc (.cells #[.int .i8 x, .int .i8 y, .int .i8 n, .bool true] 97)) 61 #[.int .i8 x, .int .i8 y, .int .i8 1, .int .i8 n]
  have hb := ((Below.refl w.heap.size w).alloc (Nat.le_refl _) (.cells #[.int .i8 x, .int .i8 y, .int .i8 n, .bool true] 97)).alloc (by simp) (.cells #[.int .i8 x, .int .i8 y, .int .i8 1, .int .i8 n] 61)
  rw [World.size_alloc] at r2
  go_enter Try.func70, Try.ntmps70
  go_wp2
  exact bodyPost_ret_row (p := 2) (ty := 61) rfl rfl r2 Try.underlying61 rfl (by kernel_rfl) rfl ⟨rfl, hb⟩
set_option maxHeartbeats 4000000 in
theorem implInk_any (v : Value) (L : List Sk) (w : World) (hL : ltSk L) (h : SlAt eSk w w.heap.size v L) :
    Calls Try.prog 35 #[v] w fun e w' => e = .returned (.tuple #[.agg (FC (ifC (inkC L) (inkF L L.length))), .int .i64 (inkC L)]) ∧ Below w.heap.size w w' := by
  obtain ⟨A, c, rfl, h1, h2, hA⟩ := h
  unfold maxLen at h2
  have hbl : ∀ w, (Instr.build 41 #[]).run Try.prog w = .ok (.agg (FC zeroF)) w := build_fr
  have b2 := Blk.new w 41 zeroF
  have h0 := (Below.refl w.heap.size w).alloc (Nat.le_refl _) (.cells (FC zeroF) 41)
  have hfin : ∀ (hc : inkC L = 2), (.tuple #[.agg (FC zeroF), .int .i64 2] : Value) = .tuple #[.agg (FC (ifC (inkC L) (inkF L L.length))), .int .i64 (inkC L)] := fun hc => by rw [hc]; rfl
  have HFIN := Lib.hid hfin
  clear hfin
  by_cases h80 : 80 < L.length
  · have HC := Lib.hid (HFIN.out (inkC_long h80))
    rw [FC_zero] at b2 h0
    clear hA
    go_enter Try.func35, Try.ntmps35
    go_wp2_with (refine wpList_store_fr (f := zeroF) rfl 41 _ _ rfl _ rfl b2 rfl (by kernel_rfl) ?_)
    exact bodyPost_ret_fr2 (p := 2) (u := 3) (ty := 41) (e := 39) rfl rfl (b2.setRow _) Try.underlying41 (by kernel_rfl) rfl ⟨congrArg Ending.returned HC.out, below_setRow h0 (by omega) _⟩
  · have b4 := Blk.new (w.alloc (.cells (FC zeroF) 41)) 41 zeroF
    replace b2 := b2.alloc (.cells (FC zeroF) 41)
    rw [World.size_alloc] at b4
    replace h0 := h0.alloc h0.size (.cells (FC zeroF) 41)
    rw [FC_zero] at b2 b4 h0
    go_enter Try.func35, Try.ntmps35
    go_wp2
    generalize ((w.alloc _).alloc _) = w1 at *
    go_loopw [14] (fun i wr => ∃ k : Nat, k ≤ L.length ∧ i = .int .i64 k ∧ (∀ j, j < k → inkB (skAt L j) = true) ∧ Blk wr w.heap.size 41 zeroF ∧ Blk wr (w.heap.size + 1) 41 (inkF L k) ∧ Below w.heap.size w wr) (fun i _ => L.length - (intOf i).toNat)
    case atStart => exact ⟨0, by omega, rfl, by omega, b2, b4, h0⟩
    case round =>
      clear b2 b4 h0
      obtain ⟨k, hk, rfl, he, b2, b4, hb⟩ := hrel
      by_cases hlt : k < L.length
      · obtain ⟨b1, o1, rfl, hb1, r1⟩ := hA (by omega)
        have r := range_below (range_part r1 (skAt_get hlt)) hb hb1
        rw [eSk_n] at r
        have hb2 := skAt_lt hL k
        have hfl := inkF_lt he
        have HBAD := Lib.hid (fun (h : inkB (skAt L k) = false) => HFIN.out (inkC_bad hlt h))
        have HE := Lib.hid (fun (h : inkB (skAt L k) = true) => (fun j (hj : j < k + 1) => by
          rcases Nat.lt_succ_iff_lt_or_eq.1 hj with h' | rfl
          · exact he j h'
          · exact h : ∀ j, j < k + 1 → inkB (skAt L j) = true))
        have HN := Lib.hid (show inkF L (k + 1) = joinF (inkF L k) (strF (skAt L k)) from rfl)
        have HL2 := Lib.hid (fun (h : inkB (skAt L k) = true) => strF_lt h)
        clear hA r1 he
        generalize hs : skAt L k = s at *
        clear hs
        obtain ⟨x, y, n, d⟩ := s
        unfold ltSk1 at hb2
        simp only at hb2
        cases d
        · have cB := fun w => inFrame_any x y n 1 ⟨by omega, by omega⟩ ⟨by omega, by omega⟩ ⟨by omega, by omega⟩ ⟨by omega, by omega⟩ w
          have cB : ∀ w, Calls Try.prog 71 #[.agg #[.int .i8 x, .int .i8 y, .int .i8 n, .int .i8 1]] w fun e' w' => e' = .returned (.bool (inkB (x, y, n, false))) ∧ Below w.heap.size w w' := cB
          cases hq : inkB (x, y, n, false) with
          | false =>
            rw [hq] at cB
            have HC := Lib.hid (HBAD.out hq)
            clear HBAD HE HN HL2 hq
            go_wp2_with (first | (refine wpList_load_el (E := eSk) rfl 97 _ rfl _ _ rfl (x, y, n, false) #[.int .i8 x, .int .i8 y, .int .i8 n, .bool false] rfl r Try.underlying97 rfl (by kernel_rfl) ?_) | (go_at_call 70; refine (strokeBoxE _ _ _ _).mono ?_; rintro e w2 ⟨rfl, hb3⟩; replace b2 := (b2.alloc (.cells #[.int .i8 x, .int .i8 y, .int .i8 n, .bool false] 97)).below hb3 (b2.alloc (.cells #[.int .i8 x, .int .i8 y, .int .i8 n, .bool false] 97)).lt; replace b4 := (b4.alloc (.cells #[.int .i8 x, .int .i8 y, .int .i8 n, .bool false] 97)).below hb3 (b4.alloc (.cells #[.int .i8 x, .int .i8 y, .int .i8 n, .bool false] 97)).lt; replace hb := grown_below (hb.alloc hb.size (.cells #[.int .i8 x, .int .i8 y, .int .i8 n, .bool false] 97)) hb3 (hb.alloc hb.size (.cells #[.int .i8 x, .int .i8 y, .int .i8 n, .bool false] 97)).size; have r7 := Row.new w2 61 #[.int .i8 x, .int .i8 y, .int .i8 n, .int .i8 1]; replace b2 := b2.alloc (.cells #[.int .i8 x, .int .i8 y, .int .i8 n, .int .i8 1] 61); replace b4 := b4.alloc (.cells #[.int .i8 x, .int .i8 y, .int .i8 n, .int .i8 1] 61); have z7 := hb.size; have y7 := b4.lt; replace hb := hb.alloc hb.size (.cells #[.int .i8 x, .int .i8 y, .int .i8 n, .int .i8 1] 61); clear r hb3) | (go_at_call 71; refine (cB _).mono ?_; rintro e w3 ⟨rfl, hb4⟩; replace b2 := b2.below hb4 b2.lt; replace b4 := b4.below hb4 b4.lt; replace r7 := Row.below r7 hb4 (Row.lt r7); replace hb := grown_below hb hb4 hb.size; clear hb4 cB) | (refine wpList_store_fr (f := zeroF) rfl 41 _ _ rfl _ rfl b2 rfl (by kernel_rfl) ?_))
            exact bodyPost_ret_fr2 (p := 2) (u := 3) (ty := 41) (e := 39) rfl rfl (b2.setRow _) Try.underlying41 (by kernel_rfl) rfl ⟨congrArg Ending.returned HC.out, below_setRow hb (by omega) _⟩
          | true =>
            rw [hq] at cB
            have hi := inkB_iff.1 hq
            unfold skW skH at hi
            simp only [if_true, if_false, Bool.false_eq_true] at hi
            have hsl := HL2.out hq
            have HG := Lib.hid (HE.out hq)
            obtain ⟨X, rfl⟩ := Int.eq_ofNat_of_zero_le hi.1
            obtain ⟨Y, rfl⟩ := Int.eq_ofNat_of_zero_le hi.2.2.2.1
            obtain ⟨N, rfl⟩ := Int.eq_ofNat_of_zero_le (show 0 ≤ n by omega)
            have cF : ∀ w, Calls Try.prog 73 #[.agg #[.int .i8 (X : Int), .int .i8 (Y : Int), .int .i8 (N : Int), .int .i8 1]] w fun e w' => e = .returned (.agg (FC (strF ((X : Int), (Y : Int), (N : Int), false)))) ∧ Below w.heap.size w w' := fun w => filled_any X Y N 1 (by omega) (by omega) w
            have cJ := fun w => join_any (inkF L k) (strF ((X : Int), (Y : Int), (N : Int), false)) hfl hsl w
            rw [← HN.out] at cJ
            have CF := Lib.hid cF
            have CJ := Lib.hid cJ
            clear HBAD HE HN HL2 hq hi hsl hfl cF cJ
            go_wp2_with (first | (refine wpList_load_el (E := eSk) rfl 97 _ rfl _ _ rfl ((X : Int), (Y : Int), (N : Int), false) #[.int .i8 (X : Int), .int .i8 (Y : Int), .int .i8 (N : Int), .bool false] rfl r Try.underlying97 rfl (by kernel_rfl) ?_) | (go_at_call 70; refine (strokeBoxE _ _ _ _).mono ?_; rintro e w2 ⟨rfl, hb3⟩; replace b2 := (b2.alloc (.cells #[.int .i8 (X : Int), .int .i8 (Y : Int), .int .i8 (N : Int), .bool false] 97)).below hb3 (b2.alloc (.cells #[.int .i8 (X : Int), .int .i8 (Y : Int), .int .i8 (N : Int), .bool false] 97)).lt; replace b4 := (b4.alloc (.cells #[.int .i8 (X : Int), .int .i8 (Y : Int), .int .i8 (N : Int), .bool false] 97)).below hb3 (b4.alloc (.cells #[.int .i8 (X : Int), .int .i8 (Y : Int), .int .i8 (N : Int), .bool false] 97)).lt; replace hb := grown_below (hb.alloc hb.size (.cells #[.int .i8 (X : Int), .int .i8 (Y : Int), .int .i8 (N : Int), .bool false] 97)) hb3 (hb.alloc hb.size (.cells #[.int .i8 (X : Int), .int .i8 (Y : Int), .int .i8 (N : Int), .bool false] 97)).size; have r7 := Row.new w2 61 #[.int .i8 (X : Int), .int .i8 (Y : Int), .int .i8 (N : Int), .int .i8 1]; replace b2 := b2.alloc (.cells #[.int .i8 (X : Int), .int .i8 (Y : Int), .int .i8 (N : Int), .int .i8 1] 61); replace b4 := b4.alloc (.cells #[.int .i8 (X : Int), .int .i8 (Y : Int), .int .i8 (N : Int), .int .i8 1] 61); have z7 := hb.size; have y7 := b4.lt; replace hb := hb.alloc hb.size (.cells #[.int .i8 (X : Int), .int .i8 (Y : Int), .int .i8 (N : Int), .int .i8 1] 61); clear r hb3) | (go_at_call 71; refine (cB _).mono ?_; rintro e w3 ⟨rfl, hb4⟩; replace b2 := b2.below hb4 b2.lt; replace b4 := b4.below hb4 b4.lt; replace r7 := Row.below r7 hb4 (Row.lt r7); replace hb := grown_below hb hb4 hb.size; clear hb4 cB))
            refine wp_region_tail 4 (by kernel_rfl) (by kernel_rfl) ?_
            simp only [List.take_succ_cons, List.take_zero, List.drop_succ_cons, List.drop_zero]
            repeat (first | (refine wpQuiet_load_fr rfl 41 39 _ rfl _ rfl b4 Try.underlying41 (by kernel_rfl) ?_) | (refine wpQuiet_load_row rfl 61 _ rfl _ rfl r7 Try.underlying61 rfl (by kernel_rfl) ?_) | quiet_step (first | exact Calls.regrown_of (CF.out _) | exact Calls.regrown_of (CJ.out _)))
            refine wpQuiet_nil ?_
            intro w5 hb5
            replace b2 := b2.below hb5 b2.lt
            replace b4 := b4.below hb5 b4.lt
            replace hb := grown_below hb hb5 hb.size
            clear hb5 r7
            go_wp2_with (refine wpList_store_fr rfl 41 _ _ rfl _ rfl b4 rfl (by kernel_rfl) ?_)
            go_roundw
            case rel =>
              go_light
              exact ⟨k + 1, by omega, by go_num, HG.out, b2.setRowOther _ (by omega), b4.setRow _, below_setRow hb (by omega) _⟩
            case measure => simp [intOf]; omega
        · have cB := fun w => inFrame_any x y 1 n ⟨by omega, by omega⟩ ⟨by omega, by omega⟩ ⟨by omega, by omega⟩ ⟨by omega, by omega⟩ w
          have cB : ∀ w, Calls Try.prog 71 #[.agg #[.int .i8 x, .int .i8 y, .int .i8 1, .int .i8 n]] w fun e' w' => e' = .returned (.bool (inkB (x, y, n, true))) ∧ Below w.heap.size w w' := cB
          cases hq : inkB (x, y, n, true) with
          | false =>
            rw [hq] at cB
            have HC := Lib.hid (HBAD.out hq)
            clear HBAD HE HN HL2 hq
            go_wp2_with (first | (refine wpList_load_el (E := eSk) rfl 97 _ rfl _ _ rfl (x, y, n, true) #[.int .i8 x, .int .i8 y, .int .i8 n, .bool true] rfl r Try.underlying97 rfl (by kernel_rfl) ?_) | (go_at_call 70; refine (strokeBoxD _ _ _ _).mono ?_; rintro e w2 ⟨rfl, hb3⟩; replace b2 := (b2.alloc (.cells #[.int .i8 x, .int .i8 y, .int .i8 n, .bool true] 97)).below hb3 (b2.alloc (.cells #[.int .i8 x, .int .i8 y, .int .i8 n, .bool true] 97)).lt; replace b4 := (b4.alloc (.cells #[.int .i8 x, .int .i8 y, .int .i8 n, .bool true] 97)).below hb3 (b4.alloc (.cells #[.int .i8 x, .int .i8 y, .int .i8 n, .bool true] 97)).lt; replace hb := grown_below (hb.alloc hb.size (.cells #[.int .i8 x, .int .i8 y, .int .i8 n, .bool true] 97)) hb3 (hb.alloc hb.size (.cells #[.int .i8 x, .int .i8 y, .int .i8 n, .bool true] 97)).size; have r7 := Row.new w2 61 #[.int .i8 x, .int .i8 y, .int .i8 1, .int .i8 n]; replace b2 := b2.alloc (.cells #[.int .i8 x, .int .i8 y, .int .i8 1, .int .i8 n] 61); replace b4 := b4.alloc (.cells #[.int .i8 x, .int .i8 y, .int .i8 1, .int .i8 n] 61); have z7 := hb.size; have y7 := b4.lt; replace hb := hb.alloc hb.size (.cells #[.int .i8 x, .int .i8 y, .int .i8 1, .int .i8 n] 61); clear r hb3) | (go_at_call 71; refine (cB _).mono ?_; rintro e w3 ⟨rfl, hb4⟩; replace b2 := b2.below hb4 b2.lt; replace b4 := b4.below hb4 b4.lt; replace r7 := Row.below r7 hb4 (Row.lt r7); replace hb := grown_below hb hb4 hb.size; clear hb4 cB) | (refine wpList_store_fr (f := zeroF) rfl 41 _ _ rfl _ rfl b2 rfl (by kernel_rfl) ?_))
            exact bodyPost_ret_fr2 (p := 2) (u := 3) (ty := 41) (e := 39) rfl rfl (b2.setRow _) Try.underlying41 (by kernel_rfl) rfl ⟨congrArg Ending.returned HC.out, below_setRow hb (by omega) _⟩
          | true =>
            rw [hq] at cB
            have hi := inkB_iff.1 hq
            unfold skW skH at hi
            simp only [if_true, if_false, Bool.false_eq_true] at hi
            have hsl := HL2.out hq
            have HG := Lib.hid (HE.out hq)
            obtain ⟨X, rfl⟩ := Int.eq_ofNat_of_zero_le hi.1
            obtain ⟨Y, rfl⟩ := Int.eq_ofNat_of_zero_le hi.2.2.2.1
            obtain ⟨N, rfl⟩ := Int.eq_ofNat_of_zero_le (show 0 ≤ n by omega)
            have cF : ∀ w, Calls Try.prog 73 #[.agg #[.int .i8 (X : Int), .int .i8 (Y : Int), .int .i8 1, .int .i8 (N : Int)]] w fun e w' => e = .returned (.agg (FC (strF ((X : Int), (Y : Int), (N : Int), true)))) ∧ Below w.heap.size w w' := fun w => filled_any X Y 1 N (by omega) (by omega) w
            have cJ := fun w => join_any (inkF L k) (strF ((X : Int), (Y : Int), (N : Int), true)) hfl hsl w
            rw [← HN.out] at cJ
            have CF := Lib.hid cF
            have CJ := Lib.hid cJ
            clear HBAD HE HN HL2 hq hi hsl hfl cF cJ
            go_wp2_with (first | (refine wpList_load_el (E := eSk) rfl 97 _ rfl _ _ rfl ((X : Int), (Y : Int), (N : Int), true) #[.int .i8 (X : Int), .int .i8 (Y : Int), .int .i8 (N : Int), .bool true] rfl r Try.underlying97 rfl (by kernel_rfl) ?_) | (go_at_call 70; refine (strokeBoxD _ _ _ _).mono ?_; rintro e w2 ⟨rfl, hb3⟩; replace b2 := (b2.alloc (.cells #[.int .i8 (X : Int), .int .i8 (Y : Int), .int .i8 (N : Int), .bool true] 97)).below hb3 (b2.alloc (.cells #[.int .i8 (X : Int), .int .i8 (Y : Int), .int .i8 (N : Int), .bool true] 97)).lt; replace b4 := (b4.alloc (.cells #[.int .i8 (X : Int), .int .i8 (Y : Int), .int .i8 (N : Int), .bool true] 97)).below hb3 (b4.alloc (.cells #[.int .i8 (X : Int), .int .i8 (Y : Int), .int .i8 (N : Int), .bool true] 97)).lt; replace hb := grown_below (hb.alloc hb.size (.cells #[.int .i8 (X : Int), .int .i8 (Y : Int), .int .i8 (N : Int), .bool true] 97)) hb3 (hb.alloc hb.size (.cells #[.int .i8 (X : Int), .int .i8 (Y : Int), .int .i8 (N : Int), .bool true] 97)).size; have r7 := Row.new w2 61 #[.int .i8 (X : Int), .int .i8 (Y : Int), .int .i8 1, .int .i8 (N : Int)]; replace b2 := b2.alloc (.cells #[.int .i8 (X : Int), .int .i8 (Y : Int), .int .i8 1, .int .i8 (N : Int)] 61); replace b4 := b4.alloc (.cells #[.int .i8 (X : Int), .int .i8 (Y : Int), .int .i8 1, .int .i8 (N : Int)] 61); have z7 := hb.size; have y7 := b4.lt; replace hb := hb.alloc hb.size (.cells #[.int .i8 (X : Int), .int .i8 (Y : Int), .int .i8 1, .int .i8 (N : Int)] 61); clear r hb3) | (go_at_call 71; refine (cB _).mono ?_; rintro e w3 ⟨rfl, hb4⟩; replace b2 := b2.below hb4 b2.lt; replace b4 := b4.below hb4 b4.lt; replace r7 := Row.below r7 hb4 (Row.lt r7); replace hb := grown_below hb hb4 hb.size; clear hb4 cB))
            refine wp_region_tail 4 (by kernel_rfl) (by kernel_rfl) ?_
            simp only [List.take_succ_cons, List.take_zero, List.drop_succ_cons, List.drop_zero]
            repeat (first | (refine wpQuiet_load_fr rfl 41 39 _ rfl _ rfl b4 Try.underlying41 (by kernel_rfl) ?_) | (refine wpQuiet_load_row rfl 61 _ rfl _ rfl r7 Try.underlying61 rfl (by kernel_rfl) ?_) | quiet_step (first | exact Calls.regrown_of (CF.out _) | exact Calls.regrown_of (CJ.out _)))
            refine wpQuiet_nil ?_
            intro w5 hb5
            replace b2 := b2.below hb5 b2.lt
            replace b4 := b4.below hb5 b4.lt
            replace hb := grown_below hb hb5 hb.size
            clear hb5 r7
            go_wp2_with (refine wpList_store_fr rfl 41 _ _ rfl _ rfl b4 rfl (by kernel_rfl) ?_)
            go_roundw
            case rel =>
              go_light
              exact ⟨k + 1, by omega, by go_num, HG.out, b2.setRowOther _ (by omega), b4.setRow _, below_setRow hb (by omega) _⟩
            case measure => simp [intOf]; omega
      · have hkl : k = L.length := by omega
        subst hkl
        have hc := inkC_good h80 he
        have hfin : (.tuple #[.agg (FC (inkF L L.length)), .int .i64 0] : Value) = .tuple #[.agg (FC (ifC (inkC L) (inkF L L.length))), .int .i64 (inkC L)] := by rw [hc]; rfl
        have HC := Lib.hid hfin
        clear hA hfin hc
        go_wp2_with (first | (refine wpList_load_fr rfl 41 39 _ rfl _ rfl b4 Try.underlying41 (by kernel_rfl) ?_) | (refine wpList_store_fr rfl 41 _ _ rfl _ rfl b2 rfl (by kernel_rfl) ?_))
        exact bodyPost_ret_fr2 (p := 2) (u := 3) (ty := 41) (e := 39) rfl rfl (b2.setRow _) Try.underlying41 (by kernel_rfl) rfl ⟨congrArg Ending.returned HC.out, below_setRow hb (by omega) _⟩
end Go.Proofs.Ytjbjbdkmomkclaa
