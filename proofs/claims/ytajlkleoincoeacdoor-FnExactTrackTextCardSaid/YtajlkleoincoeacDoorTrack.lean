/- TRACKS: when a track is valid. spec: l03Tick, l03Reach, l03Ok, ValidTrack; impl: isTick, isWithin, ValidTrack. TicksOf: both. -/
import Derived.Test.YtajlkleoincoeacDoorTrackM
import Derived.Test.YtajlkleoincoeacDoorS1
import Derived.Test.YtajlkleoincoeacDoorQuiet
namespace Go.Proofs.YtajlkleoincoeacDoor
set_option maxRecDepth 100000
open Go.RowKit
set_option linter.unusedVariables false
set_option linter.unusedSimpArgs false
theorem specTick_any (z : Int) (w : World) : Calls Tryd.prog 38 #[.int .i64 z] w fun e w' => e = .returned (.bool (inB z 0 200)) ∧ w = w' := by
  go_enter Tryd.func38, Tryd.ntmps38
  go_wp2_with (go_at_call 73; refine (in_any _ _ _ _).mono ?_; rintro e w' ⟨rfl, rfl⟩)
  go_ret
  exact ⟨rfl, rfl⟩
theorem specReach_any (z : Int) (w : World) : Calls Tryd.prog 92 #[.int .i64 z] w fun e w' => e = .returned (.bool (inB z (-24) 24)) ∧ w = w' := by
  go_enter Tryd.func92, Tryd.ntmps92
  go_wp2_with (go_at_call 73; refine (in_any _ _ _ _).mono ?_; rintro e w' ⟨rfl, rfl⟩)
  go_ret
  exact ⟨rfl, rfl⟩
set_option maxHeartbeats 1000000 in
theorem specOkT_any (v : Value) (L : List (Int × Int × Int)) (w : World) (hL : ltK L) (h : SlAt eKy w w.heap.size v L) :
    Calls Tryd.prog 48 #[v] w fun e w' => e = .returned (.bool (okT L)) ∧ Below w.heap.size w w' := by
  obtain ⟨A, c, rfl, h1, h2, hA⟩ := h
  unfold maxLen at h2
  go_enter Tryd.func48, Tryd.ntmps48
  go_wp2
  go_loopw [3] (fun i wr => ∃ k : Nat, k ≤ L.length ∧ i = .int .i64 k ∧ (∀ j, j < k → stepK L j = true) ∧ Below w.heap.size w wr) (fun i _ => L.length - (intOf i).toNat)
  case atStart => exact ⟨0, by omega, rfl, by omega, Below.refl _ _⟩
  case round =>
    obtain ⟨k, hk, rfl, he, hb⟩ := hrel
    have HE := Lib.hid he
    clear he
    by_cases hlt : k < L.length
    · obtain ⟨b1, o1, rfl, hb1, r1⟩ := hA (by omega)
      have g1 := range_below (range_part r1 (kAt_get hlt)) hb hb1
      rw [eKy_n] at g1
      have c0 := ky_cell0 g1
      have c1 := ky_cell1 g1
      have c2 := ky_cell2 g1
      have hl := kAt_lt hL k
      have hx0 := hl.1
      have hx1 := hl.2.1
      have hx2 := hl.2.2
      have HT := Lib.hid (fun h => stepK_in (L := L) (i := k) (inK_t h))
      have HX := Lib.hid (fun h => stepK_in (L := L) (i := k) (inK_x h))
      have HY := Lib.hid (fun h => stepK_in (L := L) (i := k) (inK_y h))
      have HI := Lib.hid (fun h h2 h3 => inK_ok (k := kAt L k) h h2 h3)
      have HU := Lib.hid (fun h0 h => stepK_up (L := L) (i := k) h0 h)
      have HO := Lib.hid (fun h h2 => stepK_ok (L := L) (i := k) h h2)
      have cT := fun w => specTick_any (kAt L k).1 w
      have cX := fun w => specReach_any (kAt L k).2.1 w
      have cY := fun w => specReach_any (kAt L k).2.2 w
      by_cases hk0 : k = 0
      · subst hk0
        simp only [Nat.zero_mul, Nat.add_zero] at c0 c1 c2
        clear hl g1 r1 hA
        generalize (kAt L 0).1 = t at *
        generalize (kAt L 0).2.1 = x at *
        generalize (kAt L 0).2.2 = y at *
        have k0 : IntKind.i64.wrap t = t := IntWalk.i64_in _ (by omega)
        have k1 : IntKind.i64.wrap x = x := IntWalk.i64_in _ (by omega)
        have k2 : IntKind.i64.wrap y = y := IntWalk.i64_in _ (by omega)
        cases hT : inB t 0 200 with
        | false =>
          rw [hT] at cT
          have HF := Lib.hid (HT.out hT)
          clear hT HT HX HY HI HU HO cX cY
          go_wp2_with (go_at_call 38; refine (cT _).mono ?_; rintro e w9 ⟨rfl, rfl⟩)
          go_ret
          exact ⟨ret_bool (okT_at hlt HF.out).symm, hb⟩
        | true =>
          rw [hT] at cT
          cases hX : inB x (-24) 24 with
          | false =>
            rw [hX] at cX
            have HF := Lib.hid (HX.out hX)
            clear hT hX HT HX HY HI HU HO cY
            go_wp2_with (first | (go_at_call 38; refine (cT _).mono ?_; rintro e w9 ⟨rfl, rfl⟩) | (go_at_call 92; refine (cX _).mono ?_; rintro e w9 ⟨rfl, rfl⟩))
            go_ret
            exact ⟨ret_bool (okT_at hlt HF.out).symm, hb⟩
          | true =>
            rw [hX] at cX
            cases hY : inB y (-24) 24 with
            | false =>
              rw [hY] at cY
              have HF := Lib.hid (HY.out hY)
              clear hT hX hY HT HX HY HI HU HO
              go_wp2_with (first | (go_at_call 38; refine (cT _).mono ?_; rintro e w9 ⟨rfl, rfl⟩) | (go_at_call 92; first | (refine (cX _).mono ?_; rintro e w9 ⟨rfl, rfl⟩; clear cX) | (refine (cY _).mono ?_; rintro e w9 ⟨rfl, rfl⟩; clear cY)))
              go_ret
              exact ⟨ret_bool (okT_at hlt HF.out).symm, hb⟩
            | true =>
              rw [hY] at cY
              have HF := Lib.hid (HO.out (HI.out hT hX hY) (by omega))
              clear hT hX hY HT HX HY HI HU HO
              go_wp2_with (first | (go_at_call 38; refine (cT _).mono ?_; rintro e w9 ⟨rfl, rfl⟩) | (go_at_call 92; first | (refine (cX _).mono ?_; rintro e w9 ⟨rfl, rfl⟩; clear cX) | (refine (cY _).mono ?_; rintro e w9 ⟨rfl, rfl⟩; clear cY)))
              go_region
              go_wp2
              go_roundw
              case rel =>
                go_light
                refine ⟨1, by omega, by first | rfl | go_num, ?_, hb.drew⟩
                intro j hj
                obtain rfl : j = 0 := by omega
                exact HF.out
              case measure => simp [intOf]; omega
      · have g0 := range_below (range_part r1 (kAt_get (i := k - 1) (by omega))) hb hb1
        rw [eKy_n] at g0
        have c3 := ky_cell0 g0
        have hlp := (kAt_lt hL (k - 1)).1
        have hoff : o1 + ((k - 1 : Nat)) * 3 = o1 + k * 3 - 3 := by omega
        obtain ⟨m, rfl⟩ : ∃ m, k = m + 1 := ⟨k - 1, by omega⟩
        rw [Nat.add_sub_cancel] at c3 hlp HU HO
        clear hl g1 g0 r1 hA hoff
        generalize (kAt L (m + 1)).1 = t at *
        generalize (kAt L (m + 1)).2.1 = x at *
        generalize (kAt L (m + 1)).2.2 = y at *
        generalize (kAt L m).1 = s at *
        have k0 : IntKind.i64.wrap t = t := IntWalk.i64_in _ (by omega)
        have k1 : IntKind.i64.wrap x = x := IntWalk.i64_in _ (by omega)
        have k2 : IntKind.i64.wrap y = y := IntWalk.i64_in _ (by omega)
        cases hT : inB t 0 200 with
        | false =>
          rw [hT] at cT
          have HF := Lib.hid (HT.out hT)
          clear hT HT HX HY HI HU HO cX cY
          go_wp2_with (go_at_call 38; refine (cT _).mono ?_; rintro e w9 ⟨rfl, rfl⟩)
          go_ret
          exact ⟨ret_bool (okT_at hlt HF.out).symm, hb⟩
        | true =>
          rw [hT] at cT
          cases hX : inB x (-24) 24 with
          | false =>
            rw [hX] at cX
            have HF := Lib.hid (HX.out hX)
            clear hT hX HT HX HY HI HU HO cY
            go_wp2_with (first | (go_at_call 38; refine (cT _).mono ?_; rintro e w9 ⟨rfl, rfl⟩) | (go_at_call 92; refine (cX _).mono ?_; rintro e w9 ⟨rfl, rfl⟩))
            go_ret
            exact ⟨ret_bool (okT_at hlt HF.out).symm, hb⟩
          | true =>
            rw [hX] at cX
            cases hY : inB y (-24) 24 with
            | false =>
              rw [hY] at cY
              have HF := Lib.hid (HY.out hY)
              clear hT hX hY HT HX HY HI HU HO
              go_wp2_with (first | (go_at_call 38; refine (cT _).mono ?_; rintro e w9 ⟨rfl, rfl⟩) | (go_at_call 92; first | (refine (cX _).mono ?_; rintro e w9 ⟨rfl, rfl⟩; clear cX) | (refine (cY _).mono ?_; rintro e w9 ⟨rfl, rfl⟩; clear cY)))
              go_ret
              exact ⟨ret_bool (okT_at hlt HF.out).symm, hb⟩
            | true =>
              rw [hY] at cY
              by_cases hup : t ≤ s
              · have HF := Lib.hid (HU.out (by omega) hup)
                have eu : decide (t ≤ s) = true := decide_eq_true hup
                clear hT hX hY HT HX HY HI HU HO
                go_wp2_with (first | (go_at_call 38; refine (cT _).mono ?_; rintro e w9 ⟨rfl, rfl⟩) | (go_at_call 92; first | (refine (cX _).mono ?_; rintro e w9 ⟨rfl, rfl⟩; clear cX) | (refine (cY _).mono ?_; rintro e w9 ⟨rfl, rfl⟩; clear cY)))
                go_region
                go_wp2
                go_ret
                exact ⟨ret_bool (okT_at hlt HF.out).symm, hb.drew⟩
              · have HF := Lib.hid (HO.out (HI.out hT hX hY) (fun _ => by omega))
                have eu : decide (t ≤ s) = false := decide_eq_false hup
                clear hT hX hY HT HX HY HI HU HO
                go_wp2_with (first | (go_at_call 38; refine (cT _).mono ?_; rintro e w9 ⟨rfl, rfl⟩) | (go_at_call 92; first | (refine (cX _).mono ?_; rintro e w9 ⟨rfl, rfl⟩; clear cX) | (refine (cY _).mono ?_; rintro e w9 ⟨rfl, rfl⟩; clear cY)))
                go_region
                go_wp2
                go_roundw
                case rel =>
                  go_light
                  refine ⟨m + 1 + 1, by omega, by go_num, ?_, hb.drew⟩
                  intro j hj
                  rcases Nat.lt_succ_iff_lt_or_eq.1 hj with h | rfl
                  · exact HE.out j h
                  · exact HF.out
                case measure => simp [intOf]; omega
    · have hkl : k = L.length := by omega
      subst hkl
      clear hA
      by_cases hq : 1 ≤ L.length ∧ L.length ≤ 20
      · have cN := fun w => in_any (L.length : Int) 1 20 w
        rw [inB_iff.2 (by omega)] at cN
        go_wp2_with (go_at_call 73; refine (cN _).mono ?_; rintro e w9 ⟨rfl, rfl⟩)
        go_ret
        exact ⟨ret_bool (okT_iff.2 ⟨hq, HE.out⟩).symm, hb⟩
      · have cN := fun w => in_any (L.length : Int) 1 20 w
        rw [inB_false.2 (by omega)] at cN
        have HF := Lib.hid (okT_len (L := L) (by omega))
        clear hq
        go_wp2_with (go_at_call 73; refine (cN _).mono ?_; rintro e w9 ⟨rfl, rfl⟩)
        go_ret
        exact ⟨ret_bool HF.out.symm, hb⟩
end Go.Proofs.YtajlkleoincoeacDoor
