import Derived.Test.YtpmlepgnokbpaaaM6
import Derived.Test.YtpmlepgnokbpaaaM1
import Derived.Test.YtpmlepgnokbpaaaM4
import Derived.Laws.StructEq
/- TRACKS: when a track is valid. spec: l03Tick, l03Reach, l03Ok, ValidTrack; impl: isTick, isWithin, ValidTrack. TicksOf: both. -/
namespace Go.Proofs.Ytpmlepgnokbpaaa
set_option maxRecDepth 100000
open Go.RowKit
set_option linter.unusedVariables false
set_option linter.unusedSimpArgs false
theorem specTick_any (z : Int) (w : World) : Calls Try.prog 118 #[.int .i64 z] w fun e w' => e = .returned (.bool (inB z 0 200)) ∧ w = w' := by
  go_enter Try.func118, Try.ntmps118
  go_wp2_with (go_at_call 73; refine (in_any _ _ _ _).mono ?_; rintro e w' ⟨rfl, rfl⟩)
  go_ret
  exact ⟨rfl, rfl⟩
theorem specReach_any (z : Int) (w : World) : Calls Try.prog 119 #[.int .i64 z] w fun e w' => e = .returned (.bool (inB z (-24) 24)) ∧ w = w' := by
  go_enter Try.func119, Try.ntmps119
  go_wp2_with (go_at_call 73; refine (in_any _ _ _ _).mono ?_; rintro e w' ⟨rfl, rfl⟩)
  go_ret
  exact ⟨rfl, rfl⟩
set_option maxHeartbeats 1000000 in
theorem specOkT_any (v : Value) (L : List (Int × Int × Int)) (w : World) (hL : ltK L) (h : SlAt eKy w w.heap.size v L) :
    Calls Try.prog 108 #[v] w fun e w' => e = .returned (.bool (okT L)) ∧ Below w.heap.size w w' := by
  obtain ⟨A, c, rfl, h1, h2, hA⟩ := h
  unfold maxLen at h2
  go_enter Try.func108, Try.ntmps108
  go_wp2
  go_loopw [3] (fun i wr => ∃ k : Nat, k ≤ L.length ∧ i = .int .i64 k ∧ (∀ j, j < k → stepK L j = true) ∧ Below w.heap.size w wr) (fun i _ => L.length - (intOf i).toNat)
  case atStart => exact ⟨0, by omega, rfl, by omega, Below.refl _ _⟩
  case round =>
    obtain ⟨k, hk, rfl, he, hb⟩ := hrel
    have HE := Lib.hid he
    clear he
    by_cases hlt : k < L.length
    · obtain ⟨b1, o1, rfl, hb1, r1⟩ := hA (by omega)
      have g1 := range_below (range_part r1 (kAt_get hlt)) hb hb1
      rw [eKy_n] at g1
      have c0 := ky_cell0 g1
      have c1 := ky_cell1 g1
      have c2 := ky_cell2 g1
      have hl := kAt_lt hL k
      have hx0 := hl.1
      have hx1 := hl.2.1
      have hx2 := hl.2.2
      have HT := Lib.hid (fun h => stepK_in (L := L) (i := k) (inK_t h))
      have HX := Lib.hid (fun h => stepK_in (L := L) (i := k) (inK_x h))
      have HY := Lib.hid (fun h => stepK_in (L := L) (i := k) (inK_y h))
      have HI := Lib.hid (fun h h2 h3 => inK_ok (k := kAt L k) h h2 h3)
      have HU := Lib.hid (fun h0 h => stepK_up (L := L) (i := k) h0 h)
      have HO := Lib.hid (fun h h2 => stepK_ok (L := L) (i := k) h h2)
      have cT := fun w => specTick_any (kAt L k).1 w
      have cX := fun w => specReach_any (kAt L k).2.1 w
      have cY := fun w => specReach_any (kAt L k).2.2 w
      by_cases hk0 : k = 0
      · subst hk0
        simp only [Nat.zero_mul, Nat.add_zero] at c0 c1 c2
        clear hl g1 r1 hA
        generalize (kAt L 0).1 = t at *
        generalize (kAt L 0).2.1 = x at *
        generalize (kAt L 0).2.2 = y at *
        have k0 : IntKind.i64.wrap t = t := IntWalk.i64_in _ (by omega)
        have k1 : IntKind.i64.wrap x = x := IntWalk.i64_in _ (by omega)
        have k2 : IntKind.i64.wrap y = y := IntWalk.i64_in _ (by omega)
        cases hT : inB t 0 200 with
        | false =>
          rw [hT] at cT
          have HF := Lib.hid (HT.out hT)
          clear hT HT HX HY HI HU HO cX cY
          go_wp2_with (go_at_call 118; refine (cT _).mono ?_; rintro e w9 ⟨rfl, rfl⟩)
          go_ret
          exact ⟨ret_bool (okT_at hlt HF.out).symm, hb⟩
        | true =>
          rw [hT] at cT
          cases hX : inB x (-24) 24 with
          | false =>
            rw [hX] at cX
            have HF := Lib.hid (HX.out hX)
            clear hT hX HT HX HY HI HU HO cY
            go_wp2_with (first | (go_at_call 118; refine (cT _).mono ?_; rintro e w9 ⟨rfl, rfl⟩) | (go_at_call 119; refine (cX _).mono ?_; rintro e w9 ⟨rfl, rfl⟩))
            go_ret
            exact ⟨ret_bool (okT_at hlt HF.out).symm, hb⟩
          | true =>
            rw [hX] at cX
            cases hY : inB y (-24) 24 with
            | false =>
              rw [hY] at cY
              have HF := Lib.hid (HY.out hY)
              clear hT hX hY HT HX HY HI HU HO
              go_wp2_with (first | (go_at_call 118; refine (cT _).mono ?_; rintro e w9 ⟨rfl, rfl⟩) | (go_at_call 119; first | (refine (cX _).mono ?_; rintro e w9 ⟨rfl, rfl⟩; clear cX) | (refine (cY _).mono ?_; rintro e w9 ⟨rfl, rfl⟩; clear cY)))
              go_ret
              exact ⟨ret_bool (okT_at hlt HF.out).symm, hb⟩
            | true =>
              rw [hY] at cY
              have HF := Lib.hid (HO.out (HI.out hT hX hY) (by omega))
              clear hT hX hY HT HX HY HI HU HO
              go_wp2_with (first | (go_at_call 118; refine (cT _).mono ?_; rintro e w9 ⟨rfl, rfl⟩) | (go_at_call 119; first | (refine (cX _).mono ?_; rintro e w9 ⟨rfl, rfl⟩; clear cX) | (refine (cY _).mono ?_; rintro e w9 ⟨rfl, rfl⟩; clear cY)))
              go_region
              go_wp2
              go_roundw
              case rel =>
                go_light
                refine ⟨1, by omega, by first | rfl | go_num, ?_, hb.drew⟩
                intro j hj
                obtain rfl : j = 0 := by omega
                exact HF.out
              case measure => simp [intOf]; omega
      · have g0 := range_below (range_part r1 (kAt_get (i := k - 1) (by omega))) hb hb1
        rw [eKy_n] at g0
        have c3 := ky_cell0 g0
        have hlp := (kAt_lt hL (k - 1)).1
        have hoff : o1 + ((k - 1 : Nat)) * 3 = o1 + k * 3 - 3 := by omega
        obtain ⟨m, rfl⟩ : ∃ m, k = m + 1 := ⟨k - 1, by omega⟩
        rw [Nat.add_sub_cancel] at c3 hlp HU HO
        clear hl g1 g0 r1 hA hoff
        generalize (kAt L (m + 1)).1 = t at *
        generalize (kAt L (m + 1)).2.1 = x at *
        generalize (kAt L (m + 1)).2.2 = y at *
        generalize (kAt L m).1 = s at *
        have k0 : IntKind.i64.wrap t = t := IntWalk.i64_in _ (by omega)
        have k1 : IntKind.i64.wrap x = x := IntWalk.i64_in _ (by omega)
        have k2 : IntKind.i64.wrap y = y := IntWalk.i64_in _ (by omega)
        cases hT : inB t 0 200 with
        | false =>
          rw [hT] at cT
          have HF := Lib.hid (HT.out hT)
          clear hT HT HX HY HI HU HO cX cY
          go_wp2_with (go_at_call 118; refine (cT _).mono ?_; rintro e w9 ⟨rfl, rfl⟩)
          go_ret
          exact ⟨ret_bool (okT_at hlt HF.out).symm, hb⟩
        | true =>
          rw [hT] at cT
          cases hX : inB x (-24) 24 with
          | false =>
            rw [hX] at cX
            have HF := Lib.hid (HX.out hX)
            clear hT hX HT HX HY HI HU HO cY
            go_wp2_with (first | (go_at_call 118; refine (cT _).mono ?_; rintro e w9 ⟨rfl, rfl⟩) | (go_at_call 119; refine (cX _).mono ?_; rintro e w9 ⟨rfl, rfl⟩))
            go_ret
            exact ⟨ret_bool (okT_at hlt HF.out).symm, hb⟩
          | true =>
            rw [hX] at cX
            cases hY : inB y (-24) 24 with
            | false =>
              rw [hY] at cY
              have HF := Lib.hid (HY.out hY)
              clear hT hX hY HT HX HY HI HU HO
              go_wp2_with (first | (go_at_call 118; refine (cT _).mono ?_; rintro e w9 ⟨rfl, rfl⟩) | (go_at_call 119; first | (refine (cX _).mono ?_; rintro e w9 ⟨rfl, rfl⟩; clear cX) | (refine (cY _).mono ?_; rintro e w9 ⟨rfl, rfl⟩; clear cY)))
              go_ret
              exact ⟨ret_bool (okT_at hlt HF.out).symm, hb⟩
            | true =>
              rw [hY] at cY
              by_cases hup : t ≤ s
              · have HF := Lib.hid (HU.out (by omega) hup)
                have eu : decide (t ≤ s) = true := decide_eq_true hup
                clear hT hX hY HT HX HY HI HU HO
                go_wp2_with (first | (go_at_call 118; refine (cT _).mono ?_; rintro e w9 ⟨rfl, rfl⟩) | (go_at_call 119; first | (refine (cX _).mono ?_; rintro e w9 ⟨rfl, rfl⟩; clear cX) | (refine (cY _).mono ?_; rintro e w9 ⟨rfl, rfl⟩; clear cY)))
                go_region
                go_wp2
                go_ret
                exact ⟨ret_bool (okT_at hlt HF.out).symm, hb.drew⟩
              · have HF := Lib.hid (HO.out (HI.out hT hX hY) (fun _ => by omega))
                have eu : decide (t ≤ s) = false := decide_eq_false hup
                clear hT hX hY HT HX HY HI HU HO
                go_wp2_with (first | (go_at_call 118; refine (cT _).mono ?_; rintro e w9 ⟨rfl, rfl⟩) | (go_at_call 119; first | (refine (cX _).mono ?_; rintro e w9 ⟨rfl, rfl⟩; clear cX) | (refine (cY _).mono ?_; rintro e w9 ⟨rfl, rfl⟩; clear cY)))
                go_region
                go_wp2
                go_roundw
                case rel =>
                  go_light
                  refine ⟨m + 1 + 1, by omega, by go_num, ?_, hb.drew⟩
                  intro j hj
                  rcases Nat.lt_succ_iff_lt_or_eq.1 hj with h | rfl
                  · exact HE.out j h
                  · exact HF.out
                case measure => simp [intOf]; omega
    · have hkl : k = L.length := by omega
      subst hkl
      clear hA
      by_cases hq : 1 ≤ L.length ∧ L.length ≤ 20
      · have cN := fun w => in_any (L.length : Int) 1 20 w
        rw [inB_iff.2 (by omega)] at cN
        go_wp2_with (go_at_call 73; refine (cN _).mono ?_; rintro e w9 ⟨rfl, rfl⟩)
        go_ret
        exact ⟨ret_bool (okT_iff.2 ⟨hq, HE.out⟩).symm, hb⟩
      · have cN := fun w => in_any (L.length : Int) 1 20 w
        rw [inB_false.2 (by omega)] at cN
        have HF := Lib.hid (okT_len (L := L) (by omega))
        clear hq
        go_wp2_with (go_at_call 73; refine (cN _).mono ?_; rintro e w9 ⟨rfl, rfl⟩)
        go_ret
        exact ⟨ret_bool HF.out.symm, hb⟩
end Go.Proofs.Ytpmlepgnokbpaaa

/- impl: isTick, isWithin. -/
namespace Go.Proofs.Ytpmlepgnokbpaaa
set_option maxRecDepth 100000
open Go.RowKit
set_option linter.unusedVariables false
theorem isTick_any (z : Int) (w : World) : Calls Try.prog 111 #[.int .i64 z] w fun e w' => e = .returned (.bool (inB z 0 200)) ∧ w = w' := by
  by_cases h1 : 0 ≤ z
  · go_enter Try.func111, Try.ntmps111
    go_wp2
    go_ret
    exact ⟨ret_bool (by simp [inB, h1]), rfl⟩
  · go_enter Try.func111, Try.ntmps111
    go_wp2
    go_ret
    exact ⟨ret_bool (by rw [inB_false.2 (by omega)]), rfl⟩
theorem isWithin_any (z m : Int) (w : World) (h0 : 0 ≤ m) (hm : m ≤ 100000) : Calls Try.prog 104 #[.int .i64 z, .int .i64 m] w fun e w' => e = .returned (.bool (inB z (-m) m)) ∧ w = w' := by
  by_cases h1 : -m ≤ z
  · go_enter Try.func104, Try.ntmps104
    go_wp2
    go_ret
    exact ⟨ret_bool (by simp [inB, h1]), rfl⟩
  · go_enter Try.func104, Try.ntmps104
    go_wp2
    go_ret
    exact ⟨ret_bool (by rw [inB_false.2 (by omega)]), rfl⟩
end Go.Proofs.Ytpmlepgnokbpaaa

/- TRACKS, the program: ValidTrack, slices.Equal, SameTrack, last, TicksOf. -/
namespace Go.Proofs.Ytpmlepgnokbpaaa
set_option maxRecDepth 100000
open Go.RowKit
set_option linter.unusedVariables false
set_option linter.unusedSimpArgs false
set_option maxHeartbeats 2000000 in
theorem implValidTrack_any (v : Value) (L : List (Int × Int × Int)) (w : World) (hL : ltK L) (h : SlAt eKy w w.heap.size v L) :
    Calls Try.prog 88 #[v] w fun e w' => e = .returned (.bool (okT L)) ∧ Below w.heap.size w w' := by
  obtain ⟨A, c, rfl, h1, h2, hA⟩ := h
  unfold maxLen at h2
  by_cases hlen : 1 ≤ L.length ∧ L.length ≤ 20
  case neg =>
    rw [okT_len (by omega)]
    clear hA
    by_cases hz : L.length < 1
    · have e1 : decide ((L.length : Int) < 1) = true := decide_eq_true (by omega)
      go_enter Try.func88, Try.ntmps88
      go_wp2
      go_ret
      exact ⟨rfl, Below.refl _ _⟩
    · have e1 : decide ((L.length : Int) < 1) = false := decide_eq_false (by omega)
      have e2 : decide ((20 : Int) < (L.length : Int)) = true := decide_eq_true (by omega)
      go_enter Try.func88, Try.ntmps88
      go_wp2
      go_ret
      exact ⟨rfl, Below.refl _ _⟩
  obtain ⟨b1, o1, rfl, hb1, r1⟩ := hA (by omega)
  have hl1 := hlen.1
  have hl2 := hlen.2
  clear hA hlen h2
  go_enter Try.func88, Try.ntmps88
  go_wp2
  go_loopw [15] (fun i wr => ∃ k : Nat, k ≤ L.length ∧ i = .int .i64 k ∧ (∀ j, j < k → stepK L j = true) ∧ Below w.heap.size w wr) (fun i _ => L.length - (intOf i).toNat)
  case atStart => exact ⟨0, by omega, rfl, by omega, Below.refl _ _⟩
  case round =>
    obtain ⟨k, hk, rfl, he, hb⟩ := hrel
    have HE := Lib.hid he
    clear he
    by_cases hlt : k < L.length
    case neg =>
      have hkl : k = L.length := by omega
      subst hkl
      clear r1
      go_wp2
      go_ret
      exact ⟨ret_bool (okT_iff.2 ⟨⟨hl1, hl2⟩, HE.out⟩).symm, hb⟩
    have g1 := range_below (range_part r1 (kAt_get hlt)) hb hb1
    rw [eKy_n] at g1
    have hl := kAt_lt hL k
    have HT := Lib.hid (fun h => stepK_in (L := L) (i := k) (inK_t h))
    have HX := Lib.hid (fun h => stepK_in (L := L) (i := k) (inK_x h))
    have HY := Lib.hid (fun h => stepK_in (L := L) (i := k) (inK_y h))
    have HI := Lib.hid (fun h h2 h3 => inK_ok (k := kAt L k) h h2 h3)
    have HU := Lib.hid (fun h0 h => stepK_up (L := L) (i := k) h0 h)
    have HO := Lib.hid (fun h h2 => stepK_ok (L := L) (i := k) h h2)
    have cT := fun w => isTick_any (kAt L k).1 w
    have cX := fun w => isWithin_any (kAt L k).2.1 24 w (by decide) (by decide)
    have cY := fun w => isWithin_any (kAt L k).2.2 24 w (by decide) (by decide)
    by_cases hk0 : k = 0
    · subst hk0
      obtain ⟨t, x, y, hxy⟩ : ∃ t x y, kAt L 0 = (t, x, y) := ⟨_, _, _, rfl⟩
      rw [hxy] at g1 hl HT HX HY HI HU HO cT cX cY
      have hx0 := hl.1
      have hx1 := hl.2.1
      have hx2 := hl.2.2
      dsimp only at hx0 hx1 hx2 HT HX HY HI HU HO cT cX cY
      have k0 : IntKind.i64.wrap t = t := IntWalk.i64_in _ (by omega)
      have k1 : IntKind.i64.wrap x = x := IntWalk.i64_in _ (by omega)
      have k2 : IntKind.i64.wrap y = y := IntWalk.i64_in _ (by omega)
      have hnb := hb.alloc hb.size (.cells (KC (t, x, y)) 141)
      clear hl hxy r1
      cases hT : inB t 0 200 with
      | false =>
        rw [hT] at cT
        have HF := Lib.hid (HT.out hT)
        clear hT HT HX HY HI HU HO cX cY
        go_wp2_with (refine wpList_load_el (E := eKy) rfl 141 _ rfl _ _ rfl (t, x, y) #[.int .i16 t, .int .i8 x, .int .i8 y] rfl g1 Try.underlying141 rfl (by kernel_rfl) ?_)
        go_region
        go_wp2_with (first | (go_at_call 111; refine (cT _).mono ?_; rintro e w9 ⟨rfl, rfl⟩))
        go_ret
        exact ⟨ret_bool (okT_at hlt HF.out).symm, hnb.drew⟩
      | true =>
        rw [hT] at cT
        cases hX : inB x (-24) 24 with
        | false =>
          rw [show inB x (-24) 24 = false from hX] at cX
          have HF := Lib.hid (HX.out hX)
          clear hT hX HT HX HY HI HU HO cY
          go_wp2_with (refine wpList_load_el (E := eKy) rfl 141 _ rfl _ _ rfl (t, x, y) #[.int .i16 t, .int .i8 x, .int .i8 y] rfl g1 Try.underlying141 rfl (by kernel_rfl) ?_)
          go_region
          go_wp2_with (first | (go_at_call 111; refine (cT _).mono ?_; rintro e w9 ⟨rfl, rfl⟩) | (go_at_call 104; refine (cX _).mono ?_; rintro e w9 ⟨rfl, rfl⟩))
          go_ret
          exact ⟨ret_bool (okT_at hlt HF.out).symm, hnb.drew⟩
        | true =>
          rw [show inB x (-24) 24 = true from hX] at cX
          cases hY : inB y (-24) 24 with
          | false =>
            rw [show inB y (-24) 24 = false from hY] at cY
            have HF := Lib.hid (HY.out hY)
            clear hT hX hY HT HX HY HI HU HO
            go_wp2_with (refine wpList_load_el (E := eKy) rfl 141 _ rfl _ _ rfl (t, x, y) #[.int .i16 t, .int .i8 x, .int .i8 y] rfl g1 Try.underlying141 rfl (by kernel_rfl) ?_)
            go_region
            go_wp2_with (first | (go_at_call 111; refine (cT _).mono ?_; rintro e w9 ⟨rfl, rfl⟩) | (go_at_call 104; first | (refine (cX _).mono ?_; rintro e w9 ⟨rfl, rfl⟩; clear cX) | (refine (cY _).mono ?_; rintro e w9 ⟨rfl, rfl⟩; clear cY)))
            go_ret
            exact ⟨ret_bool (okT_at hlt HF.out).symm, hnb.drew⟩
          | true =>
            rw [show inB y (-24) 24 = true from hY] at cY
            have HF := Lib.hid (HO.out (HI.out hT hX hY) (by omega))
            clear hT hX hY HT HX HY HI HU HO
            go_wp2_with (refine wpList_load_el (E := eKy) rfl 141 _ rfl _ _ rfl (t, x, y) #[.int .i16 t, .int .i8 x, .int .i8 y] rfl g1 Try.underlying141 rfl (by kernel_rfl) ?_)
            go_region
            go_wp2_with (first | (go_at_call 111; refine (cT _).mono ?_; rintro e w9 ⟨rfl, rfl⟩) | (go_at_call 104; first | (refine (cX _).mono ?_; rintro e w9 ⟨rfl, rfl⟩; clear cX) | (refine (cY _).mono ?_; rintro e w9 ⟨rfl, rfl⟩; clear cY)))
            go_roundw
            case rel =>
              go_light
              refine ⟨0 + 1, by omega, by first | rfl | go_num, ?_, hnb.drew⟩
              intro j hj
              rcases Nat.lt_succ_iff_lt_or_eq.1 hj with h | rfl
              · exact HE.out j h
              · exact HF.out
            case measure => simp [intOf]; omega
    · obtain ⟨m, rfl⟩ : ∃ m, k = m + 1 := ⟨k - 1, by omega⟩
      have g0 := range_below (range_part r1 (kAt_get (i := m) (by omega))) hb hb1
      rw [eKy_n] at g0
      have c3 := ky_cell0 g0
      have hlp := (kAt_lt hL m).1
      rw [Nat.add_sub_cancel] at HU HO
      obtain ⟨t, x, y, hxy⟩ : ∃ t x y, kAt L (m + 1) = (t, x, y) := ⟨_, _, _, rfl⟩
      rw [hxy] at g1 hl HT HX HY HI HU HO cT cX cY
      have hx0 := hl.1
      have hx1 := hl.2.1
      have hx2 := hl.2.2
      dsimp only at hx0 hx1 hx2 HT HX HY HI HU HO cT cX cY
      have k0 : IntKind.i64.wrap t = t := IntWalk.i64_in _ (by omega)
      have k1 : IntKind.i64.wrap x = x := IntWalk.i64_in _ (by omega)
      have k2 : IntKind.i64.wrap y = y := IntWalk.i64_in _ (by omega)
      have hnb := hb.alloc hb.size (.cells (KC (t, x, y)) 141)
      clear hl hxy r1 g0
      generalize (kAt L m).1 = s at *
      have l1 : b1 < wr.heap.size := Nat.lt_of_lt_of_le hb1 hb.size
      have c4 : ((wr.alloc (.cells #[.int .i16 t, .int .i8 x, .int .i8 y] 141)).drew).cell? ⟨b1, o1 + m * 3, none⟩ = some (.int .i16 s) := by rw [World.cell?_drew, World.cell?_alloc_past _ _ _ l1]; exact c3
      by_cases hup : t ≤ s
      · have HF := Lib.hid (HU.out (by omega) hup)
        have eu : decide (t ≤ s) = true := decide_eq_true hup
        clear HT HX HY HI HU HO cT cX cY
        go_wp2_with (refine wpList_load_el (E := eKy) rfl 141 _ rfl _ _ rfl (t, x, y) #[.int .i16 t, .int .i8 x, .int .i8 y] rfl g1 Try.underlying141 rfl (by kernel_rfl) ?_)
        go_region
        go_wp2
        go_ret
        exact ⟨ret_bool (okT_at hlt HF.out).symm, hnb.drew⟩
      · have eu : decide (t ≤ s) = false := decide_eq_false hup
        cases hT : inB t 0 200 with
        | false =>
          rw [hT] at cT
          have HF := Lib.hid (HT.out hT)
          clear hT HT HX HY HI HU HO cX cY
          go_wp2_with (refine wpList_load_el (E := eKy) rfl 141 _ rfl _ _ rfl (t, x, y) #[.int .i16 t, .int .i8 x, .int .i8 y] rfl g1 Try.underlying141 rfl (by kernel_rfl) ?_)
          go_region
          go_wp2_with (first | (go_at_call 111; refine (cT _).mono ?_; rintro e w9 ⟨rfl, rfl⟩))
          go_ret
          exact ⟨ret_bool (okT_at hlt HF.out).symm, hnb.drew⟩
        | true =>
          rw [hT] at cT
          cases hX : inB x (-24) 24 with
          | false =>
            rw [show inB x (-24) 24 = false from hX] at cX
            have HF := Lib.hid (HX.out hX)
            clear hT hX HT HX HY HI HU HO cY
            go_wp2_with (refine wpList_load_el (E := eKy) rfl 141 _ rfl _ _ rfl (t, x, y) #[.int .i16 t, .int .i8 x, .int .i8 y] rfl g1 Try.underlying141 rfl (by kernel_rfl) ?_)
            go_region
            go_wp2_with (first | (go_at_call 111; refine (cT _).mono ?_; rintro e w9 ⟨rfl, rfl⟩) | (go_at_call 104; refine (cX _).mono ?_; rintro e w9 ⟨rfl, rfl⟩))
            go_ret
            exact ⟨ret_bool (okT_at hlt HF.out).symm, hnb.drew⟩
          | true =>
            rw [show inB x (-24) 24 = true from hX] at cX
            cases hY : inB y (-24) 24 with
            | false =>
              rw [show inB y (-24) 24 = false from hY] at cY
              have HF := Lib.hid (HY.out hY)
              clear hT hX hY HT HX HY HI HU HO
              go_wp2_with (refine wpList_load_el (E := eKy) rfl 141 _ rfl _ _ rfl (t, x, y) #[.int .i16 t, .int .i8 x, .int .i8 y] rfl g1 Try.underlying141 rfl (by kernel_rfl) ?_)
              go_region
              go_wp2_with (first | (go_at_call 111; refine (cT _).mono ?_; rintro e w9 ⟨rfl, rfl⟩) | (go_at_call 104; first | (refine (cX _).mono ?_; rintro e w9 ⟨rfl, rfl⟩; clear cX) | (refine (cY _).mono ?_; rintro e w9 ⟨rfl, rfl⟩; clear cY)))
              go_ret
              exact ⟨ret_bool (okT_at hlt HF.out).symm, hnb.drew⟩
            | true =>
              rw [show inB y (-24) 24 = true from hY] at cY
              have HF := Lib.hid (HO.out (HI.out hT hX hY) (fun _ => by omega))
              clear hT hX hY HT HX HY HI HU HO
              go_wp2_with (refine wpList_load_el (E := eKy) rfl 141 _ rfl _ _ rfl (t, x, y) #[.int .i16 t, .int .i8 x, .int .i8 y] rfl g1 Try.underlying141 rfl (by kernel_rfl) ?_)
              go_region
              go_wp2_with (first | (go_at_call 111; refine (cT _).mono ?_; rintro e w9 ⟨rfl, rfl⟩) | (go_at_call 104; first | (refine (cX _).mono ?_; rintro e w9 ⟨rfl, rfl⟩; clear cX) | (refine (cY _).mono ?_; rintro e w9 ⟨rfl, rfl⟩; clear cY)))
              go_roundw
              case rel =>
                go_light
                refine ⟨m + 1 + 1, by omega, by first | rfl | go_num, ?_, hnb.drew⟩
                intro j hj
                rcases Nat.lt_succ_iff_lt_or_eq.1 hj with h | rfl
                · exact HE.out j h
                · exact HF.out
              case measure => simp [intOf]; omega
theorem run_neq_ky (w : World) (a b : Int × Int × Int) : (binOp .neq 141 (.agg (KC a)) (.agg (KC b))).run Try.prog w = .ok (.bool (!decide (a = b))) w := by
  obtain ⟨a0, a1, a2⟩ := a
  obtain ⟨b0, b1, b2⟩ := b
  show (binOp .neq 141 (.agg #[.int .i16 a0, .int .i8 a1, .int .i8 a2]) (.agg #[.int .i16 b0, .int .i8 b1, .int .i8 b2])).run Try.prog w = _
  by_cases h0 : a0 = b0
  · by_cases h1 : a1 = b1
    · by_cases h2 : a2 = b2
      · rw [h0, h1, h2, decide_eq_true rfl]
        go_simp
      · have e2 : (a2 == b2) = false := by simp [h2]
        rw [decide_eq_false (fun e => h2 (by injection e with _ e; injection e)), h0, h1]
        clear h0 h1 h2
        go_simp
    · have e1 : (a1 == b1) = false := by simp [h1]
      rw [decide_eq_false (fun e => h1 (by injection e with _ e; injection e)), h0]
      clear h0 h1
      go_simp
  · have e0 : (a0 == b0) = false := by simp [h0]
    rw [decide_eq_false (fun e => h0 (by injection e))]
    clear h0
    go_simp
theorem run_eql_ky (w : World) (a b : Int × Int × Int) : (binOp .eql 141 (.agg (KC a)) (.agg (KC b))).run Try.prog w = .ok (.bool (decide (a = b))) w := by
  obtain ⟨a0, a1, a2⟩ := a
  obtain ⟨b0, b1, b2⟩ := b
  show (binOp .eql 141 (.agg #[.int .i16 a0, .int .i8 a1, .int .i8 a2]) (.agg #[.int .i16 b0, .int .i8 b1, .int .i8 b2])).run Try.prog w = _
  by_cases h0 : a0 = b0
  · by_cases h1 : a1 = b1
    · by_cases h2 : a2 = b2
      · rw [h0, h1, h2, decide_eq_true rfl]
        go_simp
      · have e2 : (a2 == b2) = false := by simp [h2]
        rw [decide_eq_false (fun e => h2 (by injection e with _ e; injection e)), h0, h1]
        clear h0 h1 h2
        go_simp
    · have e1 : (a1 == b1) = false := by simp [h1]
      rw [decide_eq_false (fun e => h1 (by injection e with _ e; injection e)), h0]
      clear h0 h1
      go_simp
  · have e0 : (a0 == b0) = false := by simp [h0]
    rw [decide_eq_false (fun e => h0 (by injection e))]
    clear h0
    go_simp
end Go.Proofs.Ytpmlepgnokbpaaa
