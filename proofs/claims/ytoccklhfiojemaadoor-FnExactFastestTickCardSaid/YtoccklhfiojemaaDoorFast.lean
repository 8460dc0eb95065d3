/- FastestTick: spec and impl. -/
import Derived.Test.YtoccklhfiojemaaDoorSpeeds2
import Derived.Test.YtoccklhfiojemaaDoorGMax
namespace Go.Proofs.YtoccklhfiojemaaDoor
set_option maxRecDepth 100000
open Go.RowKit
set_option linter.unusedVariables false
set_option linter.unusedSimpArgs false
def faC (L : List (Int × Int × Int)) (e : Int) : Int := if wyC L e true = 0 then (if (spL L e).length = 0 then 6 else 0) else wyC L e true
def faT (L : List (Int × Int × Int)) (e : Int) : Int := ifI (faC L e) ((kAt L 0).1 + 1 + (gAt (spL L e) : Int))
def faM (L : List (Int × Int × Int)) (e : Int) : Int := ifI (faC L e) (gMax (spL L e))
theorem faC_cases (L : List (Int × Int × Int)) (e : Int) : (wyC L e true ≠ 0 ∧ faC L e = wyC L e true) ∨ (wyC L e true = 0 ∧ (spL L e).length = 0 ∧ faC L e = 6) ∨ (wyC L e true = 0 ∧ 0 < (spL L e).length ∧ faC L e = 0) := by
  unfold faC
  by_cases h : wyC L e true = 0
  · by_cases h2 : (spL L e).length = 0
    · simp [h, h2]
    · simp [h, h2]; omega
  · simp [h]
theorem wyC0 {L : List (Int × Int × Int)} {e : Int} {f : Bool} (h : wyC L e f = 0) : okT L = true ∧ inB e 0 3 = true := by
  rcases wyC_cases L e f with ⟨h1, hc'⟩ | ⟨h1, h2, hc'⟩ | ⟨h1, h2, h3, hc'⟩ | ⟨h1, h2, h3, hc'⟩
  · omega
  · omega
  · omega
  · exact ⟨h1, h2⟩
set_option maxHeartbeats 2000000 in
theorem specFastestTick_any (v : Value) (L : List (Int × Int × Int)) (ea : Int) (w : World) (hL : ltK L) (h : SlAt eKy w w.heap.size v L) :
    Calls Tryd.prog 21 #[v, .int .i64 ea] w fun r w' => r = .returned (.tuple #[.int .i64 (faT L ea), .int .i64 (faM L ea), .int .i64 (faC L ea)]) ∧ Below w.heap.size w w' := by
  have cA := specAsked_any v L ea true w hL h
  have cP := fun w' (hb : Below w.heap.size w w') ho he => specSpeeds_any v L ea w' ho he (h.later hb)
  unfold faT faM
  rcases faC_cases L ea with ⟨hn, hc⟩ | ⟨h0, hn, hc⟩ | ⟨h0, hn, hc⟩
  · obtain ⟨A, c, rfl⟩ := h.form
    rw [hc, ifI1 _ hn, ifI1 _ hn]
    have hne : ((wyC L ea true) != 0) = true := by simp [hn]
    clear cP hc
    generalize wyC L ea true = c0 at *
    clear hn
    go_enter Tryd.func21, Tryd.ntmps21
    go_wp2_with (go_at_call 33; refine cA.mono ?_; rintro r w1 ⟨rfl, hb⟩; clear cA)
    go_ret3
    exact ⟨rfl, hb⟩
  · obtain ⟨A, c, rfl⟩ := h.form
    have hw := wyC0 h0
    rw [h0] at cA
    have HP := Lib.hid (fun w' hb => cP w' hb hw.1 (inB_iff.1 hw.2))
    rw [hc, ifI1 _ (by decide), ifI1 _ (by decide)]
    have e0 : (((spL L ea).length : Int) == 0) = true := by rw [hn]; rfl
    clear cP hc hw h0 hn
    generalize spL L ea = l at *
    go_enter Tryd.func21, Tryd.ntmps21
    go_wp2_with (first | (go_at_call 33; refine cA.mono ?_; rintro r w1 ⟨rfl, hb⟩; clear cA) | (go_at_call 43; refine (HP.out _ hb).mono ?_; rintro r w2 ⟨u, rfl, hown, hb2⟩; obtain ⟨A2, c2, rfl⟩ : ∃ A2 c2, u = .slice A2 l.length c2 := (hown.sl (by decide)).form; clear hown))
    go_ret3
    exact ⟨rfl, grown_below hb hb2 hb.size⟩
  · have hw := wyC0 h0
    rw [h0] at cA
    have HP := Lib.hid (fun w' hb => cP w' hb hw.1 (inB_iff.1 hw.2))
    rw [hc, ifI0, ifI0]
    have e0 : (((spL L ea).length : Int) == 0) = false := beq_eq_false_iff_ne.2 (by omega)
    have hjl : (spL L ea).length ≤ 1000 := by rw [spL, tab_length]; have := (spN_le hw.1).2.2; omega
    have hl := (okT_iff.1 hw.1).1
    have k0 := (okT_key hw.1 (i := 0) (by omega)).1
    obtain ⟨A, c, rfl, h1, h2, hA⟩ := h
    obtain ⟨b1, o1, rfl, hb1, r1⟩ := hA (by omega)
    have g0 := range_part r1 (kAt_get (i := 0) (by omega))
    rw [eKy_n, Nat.zero_mul, Nat.add_zero] at g0
    have c0 := ky_cell0 g0
    have hl0 : 0 < L.length := by omega
    clear cP hc hw h0 hA h1 h2 r1 g0 hl
    generalize spL L ea = l at *
    generalize (kAt L 0).1 = s at *
    have ks : IntKind.i64.wrap s = s := IntWalk.i64_in _ (by omega)
    go_enter Tryd.func21, Tryd.ntmps21
    go_wp2_with (go_at_call 33; refine cA.mono ?_; rintro r w1 ⟨rfl, hb⟩; clear cA)
    refine (HP.out _ hb).mono ?_
    rintro r w2 ⟨u, rfl, hown, hb2⟩
    replace hb := grown_below hb hb2 hb.size
    have d0 := (World.cell?_of_block (w := w) (a := ⟨b1, o1, none⟩) (hb.block _ hb1)).trans c0
    have l1 : b1 < w2.heap.size := Nat.lt_of_lt_of_le hb1 hb.size
    have hs := hown.sl (by decide)
    obtain ⟨A2, c2, rfl, h1, h2, hA⟩ := hs
    obtain ⟨b2, o2, rfl, hbb2, r2⟩ := hA hn
    clear hA hown hb2 c0 HP
    go_wp2
    go_loopw [9, 10] (fun a i wr => ∃ k : Nat, k + 1 ≤ l.length ∧ i = .int .i64 ((k + 1 : Nat) : Int) ∧ a = .int .i64 (gTo l k) ∧ Below w2.heap.size w2 wr) (fun _ i _ => l.length - (intOf i).toNat)
    case atStart => exact ⟨0, by omega, rfl, rfl, Below.refl _ _⟩
    case round =>
      obtain ⟨k, hk, rfl, rfl, hb2⟩ := hrel
      have hle := gTo_le l k
      have e0w := (World.cell?_of_block (w := w2) (a := ⟨b1, o1, none⟩) (hb2.block _ l1)).trans d0
      by_cases hlt : k + 1 < l.length
      · have c1 := int_cell (range_below r2 hb2 hbb2) hlt
        have cg := int_cell (range_below r2 hb2 hbb2) (show gTo l k < l.length by omega)
        have hst : gTo l (k + 1) = if l.getD (gTo l k) 0 < l.getD (k + 1) 0 then k + 1 else gTo l k := rfl
        have hi2 : (k : Int) + 1 < (l.length : Int) := by omega
        have hi3 : ((k : Int) + 1).toNat = k + 1 := by omega
        generalize l.getD (k + 1) 0 = x at *
        generalize l.getD (gTo l k) 0 = y at *
        have HST := Lib.hid hst
        clear hst
        generalize gTo l k = p at *
        have hpl : p < l.length := by omega
        by_cases hxy : y < x
        · have hd : decide (y < x) = true := decide_eq_true hxy
          go_wp2
          go_quiet (fail)
          go_wp2
          go_roundw
          case rel =>
            go_light
            exact ⟨k + 1, by omega, by go_num, by rw [HST.out, if_pos hxy] <;> go_num, below_drewN hb2 _⟩
          case measure => simp [intOf]; omega
        · have hd : decide (y < x) = false := decide_eq_false hxy
          go_wp2
          go_quiet (fail)
          go_wp2
          go_roundw
          case rel =>
            go_light
            exact ⟨k + 1, by omega, by go_num, by rw [HST.out, if_neg (by omega)], below_drewN hb2 _⟩
          case measure => simp [intOf]; omega
      · have hkl : k = l.length - 1 := by omega
        have hv : gAt l = gTo l k := by unfold gAt; rw [hkl]
        have hv2 : gMax l = l.getD (gTo l k) 0 := by unfold gMax; rw [hv]
        have cg := int_cell (range_below r2 hb2 hbb2) (show gTo l k < l.length by omega)
        have HV := Lib.hid hv
        have HV2 := Lib.hid hv2
        clear hv hv2 hkl
        generalize l.getD (gTo l k) 0 = y at *
        generalize gTo l k = p at *
        have hpl : p < l.length := by omega
        have kp : IntKind.i64.wrap (s + 1 + (p : Int)) = s + 1 + (p : Int) := IntWalk.i64_in _ (by omega)
        have kq : IntKind.i64.wrap (s + 1) = s + 1 := IntWalk.i64_in _ (by omega)
        go_wp2
        go_quiet (fail)
        go_wp2
        go_ret3
        exact ⟨by rw [HV.out, HV2.out]; rfl, hb.trans ((below_drewN hb2 _).mono hb.size)⟩
set_option maxHeartbeats 2000000 in
theorem implFastestTick_any (v : Value) (L : List (Int × Int × Int)) (ea : Int) (w : World) (a : Nat → Addr) (hL : ltK L) (h : SlAt eKy w w.heap.size v L) (hs : Sent w a) :
    Calls Tryd.prog 22 #[v, .int .i64 ea] w fun r w' => r = .returned (.tuple #[.int .i64 (faT L ea), .int .i64 (faM L ea), .int .i64 (faC L ea)]) ∧ Below w.heap.size w w' := by
  have cS := implSpeedsOf_any v L ea w a hL h hs
  unfold faT faM
  rcases faC_cases L ea with ⟨hn, hc⟩ | ⟨h0, hn, hc⟩ | ⟨h0, hn, hc⟩
  · obtain ⟨A, c, rfl⟩ := h.form
    rw [hc, ifI1 _ hn, ifI1 _ hn]
    rw [ifL1 _ hn] at cS
    have hne : ((wyC L ea true) != 0) = true := by simp [hn]
    clear hc h hs
    generalize wyC L ea true = c0 at *
    clear hn
    go_enter Tryd.func22, Tryd.ntmps22
    go_wp2_with (go_at_call 16; refine cS.mono ?_; rintro r w1 ⟨u, rfl, hown, hb⟩; clear cS hown)
    go_ret3
    exact ⟨rfl, hb⟩
  · obtain ⟨A, c, rfl⟩ := h.form
    rw [h0, ifL0] at cS
    rw [hc, ifI1 _ (by decide), ifI1 _ (by decide)]
    have e0 : (((spL L ea).length : Int) == 0) = true := by rw [hn]; rfl
    clear hc h0 hn h hs
    generalize spL L ea = l at *
    go_enter Tryd.func22, Tryd.ntmps22
    go_wp2_with (go_at_call 16; refine cS.mono ?_; rintro r w1 ⟨u, rfl, hown, hb⟩; obtain ⟨A2, c2, rfl⟩ : ∃ A2 c2, u = .slice A2 l.length c2 := (hown.sl (by decide)).form; clear cS hown)
    go_ret3
    exact ⟨rfl, hb⟩
  · have hw := wyC0 h0
    rw [h0, ifL0] at cS
    rw [hc, ifI0, ifI0]
    have e0 : (((spL L ea).length : Int) == 0) = false := beq_eq_false_iff_ne.2 (by omega)
    have hjl : (spL L ea).length ≤ 1000 := by rw [spL, tab_length]; have := (spN_le hw.1).2.2; omega
    have hl := (okT_iff.1 hw.1).1
    have k0 := (okT_key hw.1 (i := 0) (by omega)).1
    obtain ⟨A, c, rfl, h1, h2, hA⟩ := h
    obtain ⟨b1, o1, rfl, hb1, r1⟩ := hA (by omega)
    have g0 := range_part r1 (kAt_get (i := 0) (by omega))
    rw [eKy_n, Nat.zero_mul, Nat.add_zero] at g0
    have c0 := ky_cell0 g0
    have hl0 : 0 < L.length := by omega
    clear hc hw h0 hA h1 h2 r1 g0 hl hs
    generalize spL L ea = l at *
    generalize (kAt L 0).1 = s at *
    have ks : IntKind.i64.wrap s = s := IntWalk.i64_in _ (by omega)
    have kq : IntKind.i64.wrap (s + 1) = s + 1 := IntWalk.i64_in _ (by omega)
    go_enter Tryd.func22, Tryd.ntmps22
    go_wp2_with fail
    refine cS.mono ?_
    rintro r w1 ⟨u, rfl, hown, hb⟩
    have d0 := (World.cell?_of_block (w := w) (a := ⟨b1, o1, none⟩) (hb.block _ hb1)).trans c0
    have hs := hown.sl (by decide)
    have hle := gTo_le l (l.length - 1)
    have cM := slMax_any _ l w1 hn hs
    have cI := fun w' (hb2 : Below w1.heap.size w1 w') => to_below (slIndex_any _ l (gAt l) w' (by unfold gAt; omega) (gTo_first l (l.length - 1)) (hs.later hb2))
    have hgl : gAt l < l.length := by unfold gAt; omega
    rw [show l.getD (gAt l) 0 = gMax l from rfl] at cI
    obtain ⟨A2, c2, rfl⟩ := hs.form
    clear hle hs hown cS c0
    generalize hgm : gMax l = m at cM cI
    generalize hga : gAt l = p at cI hgl
    have HM := Lib.hid hgm
    have HA := Lib.hid hga
    have HI := Lib.hid cI
    have kp : IntKind.i64.wrap (s + 1 + (p : Int)) = s + 1 + (p : Int) := IntWalk.i64_in _ (by omega)
    clear hgm hga cI
    go_wp2_with (go_at_call 45; refine cM.mono ?_; rintro e w' ⟨rfl, rfl⟩)
    have y0 := cell_q d0
    refine wp_region_calm (by kernel_rfl) (by kernel_rfl) ?_
    repeat (quiet_step (with_reducible exact Calls.regrown_of (HI.out _ (below_regrown w1 _ _))))
    refine wpQuiet_nil ?_
    intro w4 hb4
    go_wp2
    go_ret3
    exact ⟨by rw [HM.out, HA.out]; rfl, grown_below hb hb4 hb.size⟩
end Go.Proofs.YtoccklhfiojemaaDoor
