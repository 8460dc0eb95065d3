/- impl: changeTrack without captures, BackTrack; spec: BackTrack. -/
import Derived.Test.YtennmnkjdchbhabDoorIBackT
import Derived.Test.YtennmnkjdchbhabDoorShiftI
import Derived.Test.YtennmnkjdchbhabDoorTrack
namespace Go.Proofs.YtennmnkjdchbhabDoor
set_option maxRecDepth 100000
open Go.RowKit
set_option linter.unusedVariables false
set_option linter.unusedSimpArgs false
set_option maxHeartbeats 2000000 in
theorem changeTrack0 (v : Value) (L : List (Int × Int × Int)) (f : Bool) (fid : FuncId) (M : List (Int × Int × Int)) (a : Nat → Addr) (w : World) (hL : ltK L) (h : SlAt eKy w w.heap.size v L) (hs : Sent w a)
    (hM : okT L = true → f = true → ltK M)
    (hcall : ∀ w, (callFunc fid #[v]).run Tryd.prog w = .ok (.enter fid #[v]) w)
    (hbody : okT L = true → f = true → ∀ w1, Below w.heap.size w w1 → Calls Tryd.prog fid #[v] w1 (GivesV eKy 60 M w1)) :
    Calls Tryd.prog 39 #[v, .bool f, .func (.func fid) #[] #[]] w (GivesE a M (chC L f M) w) := by
  have cO := implValidTrack_any v L w hL h
  obtain ⟨A, c, rfl⟩ := h.form
  clear h
  cases ho : okT L with
  | false =>
    have hc : chC L f M = 1 := by unfold chC; rw [ho]; rfl
    rw [ho] at cO
    rw [hc]
    unfold GivesE
    rw [ifL1 _ (by decide), errV1]
    clear hc ho hM hbody
    go_enter Tryd.func39, Tryd.ntmps39
    go_wp2_with (go_at_call 66; refine cO.mono ?_; rintro r w' ⟨rfl, hb⟩; have q0 := (hs.below hb).var0; clear cO hs)
    go_region
    go_wp2
    go_ret2
    exact ⟨_, rfl, OwnL.nil_ _ _ _, hb.drew⟩
  | true =>
    rw [ho] at cO
    cases hf : f with
    | false =>
      have hc : chC L false M = 2 := by unfold chC; rw [ho]; rfl
      rw [hc]
      unfold GivesE
      rw [ifL1 _ (by decide), errV2]
      clear hc ho hM hbody
      go_enter Tryd.func39, Tryd.ntmps39
      go_wp2_with (go_at_call 66; refine cO.mono ?_; rintro r w' ⟨rfl, hb⟩; have q1 := (hs.below hb).var1; clear cO hs)
      go_region
      go_wp2
      go_ret2
      exact ⟨_, rfl, OwnL.nil_ _ _ _, hb.drew⟩
    | true =>
      have HB := Lib.hid (hbody ho hf)
      have hM' := hM ho hf
      cases hk : okT M with
      | true =>
        have hc : chC L true M = 0 := by unfold chC; rw [ho, hk]; rfl
        rw [hc]
        unfold GivesE
        rw [ifL0]
        have cLim := fun (u : Value) (w2 : World) (hu : SlAt eKy w2 w2.heap.size u M) (hs2 : Sent w2 a) => limited_any u M a w2 hM' hu hs2
        simp only [hk, if_true] at cLim
        have HL := Lib.hid cLim
        clear cLim hc
        clear ho hM hbody hf hM' hk
        go_enter Tryd.func39, Tryd.ntmps39
        go_wp2_with (go_at_call 66; refine cO.mono ?_; rintro r w1 ⟨rfl, hb⟩; clear cO)
        refine (HB.out _ hb).mono ?_
        rintro r w2 ⟨u, rfl, hown, hb2⟩
        have hbs := hb.size
        replace hb := grown_below hb hb2 hb.size
        go_wp2_with fail
        refine (HL.out u w2 (hown.sl (by decide)) (hs.below hb)).mono ?_
        rintro r w3 ⟨rfl, hb3⟩
        replace hown := hown.below hb3
        replace hb := grown_below hb hb3 hb.size
        go_wp2
        go_ret2
        exact ⟨_, rfl, hown.mono hbs, hb⟩
      | false =>
        have hc : chC L true M = 3 := by unfold chC; rw [ho, hk]; rfl
        rw [hc]
        unfold GivesE
        rw [ifL1 _ (by decide)]
        have cLim := fun (u : Value) (w2 : World) (hu : SlAt eKy w2 w2.heap.size u M) (hs2 : Sent w2 a) => limited_any u M a w2 hM' hu hs2
        simp only [hk, Bool.false_eq_true, if_false] at cLim
        have HL := Lib.hid cLim
        clear cLim hc
        clear ho hM hbody hf hM' hk
        go_enter Tryd.func39, Tryd.ntmps39
        go_wp2_with (go_at_call 66; refine cO.mono ?_; rintro r w1 ⟨rfl, hb⟩; clear cO)
        refine (HB.out _ hb).mono ?_
        rintro r w2 ⟨u, rfl, hown, hb2⟩
        have hbs := hb.size
        replace hb := grown_below hb hb2 hb.size
        go_wp2_with fail
        refine (HL.out u w2 (hown.sl (by decide)) (hs.below hb)).mono ?_
        rintro r w3 ⟨rfl, hb3⟩
        replace hown := hown.below hb3
        replace hb := grown_below hb hb3 hb.size
        go_wp2
        go_ret2
        exact ⟨_, rfl, OwnL.nil_ _ _ _, hb⟩
def bkC (L : List (Int × Int × Int)) : Int := okTC L
theorem bk_chC (L : List (Int × Int × Int)) : chC L true (bkL L) = bkC L := by
  unfold chC bkC okTC
  cases h : okT L with
  | false => rfl
  | true => rw [bkL_ok h]; rfl
theorem bk_if_len (L : List (Int × Int × Int)) : (ifL (bkC L) (bkL L)).length ≤ 1000 := by
  rcases okTC_cases L with ⟨ho, hc⟩ | ⟨ho, hc⟩
  · rw [show bkC L = 1 from hc, ifL1 _ (by decide)]; simp
  · rw [show bkC L = 0 from hc, ifL0, bkL_len]
    have := (okT_iff.1 ho).1
    omega
set_option maxHeartbeats 2000000 in
theorem implBackTrack_any (v : Value) (L : List (Int × Int × Int)) (w : World) (a : Nat → Addr) (hL : ltK L) (h : SlAt eKy w w.heap.size v L) (hs : Sent w a) :
    Calls Tryd.prog 12 #[v] w (GivesL eKy 60 (ifL (bkC L) (bkL L)) (bkC L) w) := by
  have cCh := changeTrack0 v L true 40 (bkL L) a w hL h hs (fun hw _ => bkL_lt hw) (fun w => by obtain ⟨A, c, rfl⟩ := h.form; kernel_rfl) (fun hw _ w1 hb1 => backTr_any v L w1 hw (h.later hb1))
  have cCo := fun (w3 : World) (hb3 : Below w.heap.size w w3) => codeOf_any (bkC L) a w3 (hs.below hb3) (by rw [← bk_chC]; exact chC_in _ _ _)
  rw [bk_chC] at cCh
  have HO := Lib.hid cCo
  have HC := Lib.hid cCh
  clear cCo cCh
  obtain ⟨A, cc, rfl⟩ := h.form
  clear h hs hL
  generalize bkC L = sc at *
  generalize bkL L = M at *
  go_enter Tryd.func12, Tryd.ntmps12
  go_wp2_with fail
  refine HC.out.mono ?_
  rintro r w4 ⟨u, rfl, hown, hb⟩
  go_wp2_with (go_at_call 41; refine (HO.out _ hb).mono ?_; rintro r w5 ⟨rfl, rfl⟩)
  go_ret2
  exact ⟨_, rfl, hown, hb⟩
set_option maxHeartbeats 4000000 in
theorem specBackTrack_any (v : Value) (L : List (Int × Int × Int)) (w : World) (hL : ltK L) (h : SlAt eKy w w.heap.size v L) :
    Calls Tryd.prog 10 #[v] w (GivesL eKy 60 (ifL (bkC L) (bkL L)) (bkC L) w) := by
  have cO := specOkT_any v L w hL h
  rcases okTC_cases L with ⟨ho, hc⟩ | ⟨ho, hc⟩
  · have HC := Lib.hid (show bkC L = 1 from hc)
    rw [ho] at cO
    obtain ⟨A, c, rfl⟩ := h.form
    clear h hc ho hL
    go_enter Tryd.func10, Tryd.ntmps10
    go_wp2_with (go_at_call 35; refine cO.mono ?_; rintro r w1 ⟨rfl, hb⟩; clear cO)
    go_ret2
    rw [HC.out]
    exact ⟨_, rfl, OwnL.made _ w.heap.size 60 hb.size, hb.alloc hb.size _⟩
  · have HC := Lib.hid (show bkC L = 0 from hc)
    rw [ho] at cO
    have hlen := (okT_iff.1 ho).1
    obtain ⟨A, c, rfl, h1, h2, hA⟩ := h
    obtain ⟨b, o, rfl, hb1, r1⟩ := hA (by omega)
    have q0 : IntKind.i64.wrap ((L.length : Int) - 1) = (L.length : Int) - 1 := IntWalk.i64_in _ (by omega)
    have HO := Lib.hid ho
    have hl1 := hlen.1
    have hl2 := hlen.2
    clear hc hA h2 hlen ho
    go_enter Tryd.func10, Tryd.ntmps10
    go_wp2_with (go_at_call 35; refine cO.mono ?_; rintro r w1 ⟨rfl, hb⟩; clear cO; have hown := OwnL.made (E := eKy) w1 w.heap.size 60 hb.size; have h0 := hb.alloc hb.size (.cells #[] 60))
    go_loopw [4, 5] (fun u i wr => ∃ k : Nat, k ≤ L.length ∧ i = .int .i64 ((L.length : Int) - 1 - (k : Int)) ∧ OwnL eKy wr w.heap.size 60 u (tab (bkF L) k) ∧ Below w.heap.size w wr) (fun _ i _ => (intOf i + 1).toNat)
    case atStart => exact ⟨0, by omega, by simp, hown, h0⟩
    case round =>
      clear hown h0 hb
      obtain ⟨k, hk, rfl, hown, hb⟩ := hrel
      by_cases hlt : k < L.length
      · have hm : (L.length : Int) - 1 - (k : Int) = ((L.length - 1 - k : Nat) : Int) := by omega
        have hlm : L.length - 1 - k < L.length := by omega
        have g0 := range_below (range_part r1 (kAt_get (show 0 < L.length by omega))) hb hb1
        have gl := range_below (range_part r1 (kAt_get (show L.length - 1 < L.length by omega))) hb hb1
        have gm := range_below (range_part r1 (kAt_get hlm)) hb hb1
        rw [eKy_n] at gm
        rw [eKy_n, Nat.zero_mul, Nat.add_zero] at g0
        rw [eKy_n] at gl
        have k0 := okT_key HO.out (show 0 < L.length by omega)
        have kl := okT_key HO.out (show L.length - 1 < L.length by omega)
        have km := okT_key HO.out hlm
        have hF : bkF L k = ((kAt L 0).1 + (kAt L (L.length - 1)).1 - (kAt L (L.length - 1 - k)).1, (kAt L (L.length - 1 - k)).2.1, (kAt L (L.length - 1 - k)).2.2) := rfl
        have HS := Lib.hid (tab_succ (bkF L) k)
        have hll : (tab (bkF L) k).length ≤ 1000 := by rw [tab_length]; omega
        have c0 := ky_cell0 g0
        have cl := ky_cell0 gl
        clear r1 g0 gl
        rw [hm]
        generalize kAt L 0 = a0 at *
        generalize kAt L (L.length - 1) = al at *
        generalize kAt L (L.length - 1 - k) = am at *
        have hmm : ((L.length - 1 - k : Nat) : Int) = (L.length : Int) - 1 - (k : Int) := hm.symm
        generalize hme : L.length - 1 - k = m at *
        obtain ⟨t0, y0, z0⟩ := a0
        obtain ⟨tl, yl, zl⟩ := al
        obtain ⟨t, y, z⟩ := am
        dsimp only at k0 kl km hF c0 cl
        have HF := Lib.hid hF
        have HM := Lib.hid hmm
        clear hF hm hmm hme
        have q1 : IntKind.i16.wrap (t0 + tl) = t0 + tl := IntWalk.i16_in _ (by omega)
        have q2 : IntKind.i16.wrap (t0 + tl - t) = t0 + tl - t := IntWalk.i16_in _ (by omega)
        have q3 : IntKind.i64.wrap ((L.length : Int) - 1) = ((L.length - 1 : Nat) : Int) := by rw [IntKind.wrap_i64]; omega
        have q4 : IntKind.i64.wrap ((m : Int) - 1) = (m : Int) - 1 := IntWalk.i64_in _ (by omega)
        have hpos : 0 < L.length := by omega
        have hml : L.length - 1 < L.length := by omega
        generalize L.length - 1 = ml at *
        clear k0 kl km q0
        have bX := Row.new wr 60 (KC (t, y, z))
        have hs0 := hb.size
        go_wp2_with (first | (refine wpList_load_el (E := eKy) rfl 60 _ rfl _ _ rfl (t, y, z) (KC (t, y, z)) rfl gm Tryd.underlying60 rfl (by kernel_rfl) ?_) | (refine wpList_store_row rfl 60 _ _ rfl _ rfl (Row.new wr 60 _) rfl rfl (by simp [Value.oneCell', KC]) (by kernel_rfl) ?_; rw [setRow_new]))
        have hlt0 : b < wr.heap.size := block_lt_of_cell c0
        have hal := (Below.refl wr.heap.size wr).alloc (Nat.le_refl _) (.cells (KC (t, y, z)) 60)
        replace c0 := (hal.cell (p := ⟨b, o, none⟩) hlt0).trans c0
        replace cl := (hal.cell (p := ⟨b, o + ml * 3, none⟩) hlt0).trans cl
        clear hal
        have hown3 := hown.alloc (.cells (KC (t, y, z)) 60)
        have hb3 := hb.alloc hb.size (.cells (KC (t, y, z)) 60)
        have hne := hown.ne_hi (Nat.le_refl wr.heap.size)
        have hgl := bX.lt
        clear hown gm hb
        generalize wr.alloc _ = w3 at *
        generalize wr.heap.size = Bx at *
        have bx0 : w3.cell? ⟨Bx, 0, none⟩ = some (.int .i16 t) := Row.cell bX 0
        have c0' := fun dd os => cell_regrown c0 dd os
        have cl' := fun dd os => cell_regrown cl dd os
        have cx' := fun dd os => cell_regrown bx0 dd os
        refine wp_region_tail 16 (by kernel_rfl) (by kernel_rfl) ?_
        simp only [List.take_succ_cons, List.take_zero, List.drop_succ_cons, List.drop_zero]
        repeat (quiet_step (fail))
        refine wpQuiet_nil ?_
        intro w4 hb4
        have bX4 := bX.below hb4 bX.lt
        have hown4 := hown3.below hb4
        have hb5 := grown_below hb3 hb4 hb3.size
        have cX4 : w4.cell? ⟨Bx, 0, none⟩ = some (.int .i16 t) := Row.cell bX4 0
        have fX4 := Row.free bX4 0
        clear c0 cl c0' cl' cx' bx0 bX hown3 hb3 hb4 q1 q2 q3
        have bX5 : Row (w4.setCell ⟨Bx, 0, none⟩ (.int .i16 (t0 + tl - t))) Bx 60 (KC (t0 + tl - t, y, z)) := Row.set bX4 0 (.int .i16 (t0 + tl - t))
        have hown5 := hown4.kept (grownBy_setCell' w4 Bx (.int .i16 (t0 + tl - t))) (.inr hne)
        have hb6 := hb5.setCell (p := ⟨Bx, 0, none⟩) hs0 (.int .i16 (t0 + tl - t))
        have hz6 := hb6.size
        go_wp2_with (first | (refine wpList_load_row rfl 60 _ rfl _ rfl _ _ _ _ bX5 Tryd.underlying60 rfl (by kernel_rfl) ?_) | (refine wpList_build1 (v := .agg (KC (t0 + tl - t, y, z))) (cs := KC (t0 + tl - t, y, z)) rfl 25 60 _ rfl rfl (fun w => run_build_kys w (t0 + tl - t, y, z)) ?_) | (at_builtin; refine wpList_append_one rfl _ _ 25 rfl w.heap.size 60 Tryd.underlying25 infoKyL rfl (by decide) (by omega) (hown5.alloc (.cells (KC (t0 + tl - t, y, z)) 60)) rfl (t0 + tl - t, y, z) rfl (range_new _ _ (KC (t0 + tl - t, y, z))) (by omega) (by rw [World.size_alloc]; omega) ?_; intro v' w6 hown' hgrow))
        go_roundw
        case rel =>
          go_light
          refine ⟨k + 1, by omega, by rw [HM.out]; congr 1; omega, ?_, (hown5.alloc _).grown_below (hb6.alloc hb6.size _) hgrow (Nat.le_refl _) (by rw [World.size_alloc]; omega)⟩
          rw [HS.out, HF.out]; exact hown'
        case measure => (simp [intOf]) <;> omega
      · obtain rfl : k = L.length := by omega
        have hU := Lib.hid (show bkL L = tab (bkF L) L.length from rfl)
        have hm : (L.length : Int) - 1 - (L.length : Int) = -1 := by omega
        rw [hm]
        clear r1 hm
        go_wp2
        go_ret2
        rw [HC.out, ifL0, hU.out]
        exact ⟨_, rfl, hown, hb⟩
end Go.Proofs.YtennmnkjdchbhabDoor
