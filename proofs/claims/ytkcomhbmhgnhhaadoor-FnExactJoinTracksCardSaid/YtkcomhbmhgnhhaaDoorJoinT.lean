/- JoinTracks, plainly; impl: joinTracks, JoinTracks. -/
import Derived.Test.YtkcomhbmhgnhhaaDoorConcatK
import Derived.Test.YtkcomhbmhgnhhaaDoorShiftI
import Derived.Test.YtkcomhbmhgnhhaaDoorTicksT
import Derived.Test.YtkcomhbmhgnhhaaDoorCellQ
namespace Go.Proofs.YtkcomhbmhgnhhaaDoor
set_option maxRecDepth 100000
open Go.RowKit
set_option linter.unusedVariables false
set_option linter.unusedSimpArgs false
/-- By how much the second track is moved. -/
def jtD (L M : List (Int × Int × Int)) : Int := (kAt L (L.length - 1)).1 - (kAt M 0).1
def jtT (L M : List (Int × Int × Int)) : List (Int × Int × Int) := L ++ (shL (jtD L M) 0 0 M).drop 1
/-- The last place is the first one. -/
def jtE (L M : List (Int × Int × Int)) : Bool := decide ((kAt L (L.length - 1)).2 = (kAt M 0).2)
def jtC (L M : List (Int × Int × Int)) : Int := if okT L && okT M then (if jtE L M then (if okT (jtT L M) then 0 else 3) else 4) else 1
theorem jtC_cases (L M : List (Int × Int × Int)) : (okT L = false ∧ jtC L M = 1) ∨ (okT L = true ∧ okT M = false ∧ jtC L M = 1) ∨ (okT L = true ∧ okT M = true ∧ jtE L M = false ∧ jtC L M = 4) ∨ (okT L = true ∧ okT M = true ∧ jtE L M = true ∧ okT (jtT L M) = false ∧ jtC L M = 3) ∨ (okT L = true ∧ okT M = true ∧ jtE L M = true ∧ okT (jtT L M) = true ∧ jtC L M = 0) := by
  unfold jtC
  cases h1 : okT L <;> cases h2 : okT M <;> cases h3 : jtE L M <;> cases h4 : okT (jtT L M) <;> simp
theorem jtC_in (L M : List (Int × Int × Int)) : 0 ≤ jtC L M ∧ jtC L M ≤ 5 := by
  rcases jtC_cases L M with ⟨_, h⟩ | ⟨_, _, h⟩ | ⟨_, _, _, h⟩ | ⟨_, _, _, _, h⟩ | ⟨_, _, _, _, h⟩ <;> rw [h] <;> decide
theorem jt_len (L M : List (Int × Int × Int)) : (jtT L M).length = L.length + (M.length - 1) := by
  unfold jtT shL; rw [List.length_append, List.length_drop, tab_length]
theorem jt_if_len (L M : List (Int × Int × Int)) : (ifL (jtC L M) (jtT L M)).length ≤ 1000 := by
  rcases jtC_cases L M with ⟨_, h⟩ | ⟨_, _, h⟩ | ⟨_, _, _, h⟩ | ⟨_, _, _, _, h⟩ | ⟨ho, h2, _, _, h⟩ <;> rw [h]
  · rw [ifL1 _ (by decide)]; simp
  · rw [ifL1 _ (by decide)]; simp
  · rw [ifL1 _ (by decide)]; simp
  · rw [ifL1 _ (by decide)]; simp
  · rw [ifL0, jt_len]
    have := (okT_iff.1 ho).1
    have := (okT_iff.1 h2).1
    omega
theorem jtD_in {L M : List (Int × Int × Int)} (h1 : okT L = true) (h2 : okT M = true) : -200 ≤ jtD L M ∧ jtD L M ≤ 200 := by
  have l1 := (okT_iff.1 h1).1
  have l2 := (okT_iff.1 h2).1
  have a := okT_key h1 (show L.length - 1 < L.length by omega)
  have b := okT_key h2 (show 0 < M.length by omega)
  unfold jtD
  omega
theorem jtT_lt {L M : List (Int × Int × Int)} (h1 : okT L = true) (h2 : okT M = true) (hL : ltK L) : ltK (jtT L M) := by
  have hd := jtD_in h1 h2
  intro s hs
  unfold jtT at hs
  rcases List.mem_append.1 hs with h | h
  · exact hL s h
  · have h' := List.mem_of_mem_drop h
    unfold shL tab at h'
    obtain ⟨i, hi, rfl⟩ := List.mem_map.1 h'
    have q := okT_key h2 (List.mem_range.1 hi)
    unfold shF ltK1
    dsimp only
    omega
theorem cellsKyG : Tryd.prog.cellsOf 50 = eKy.n := by kernel_rfl
theorem run_slice_1k (b o n c : Nat) (hn : 1 ≤ n) (hc : n ≤ c) (w : World) : (Instr.slice 25 (.slice (some ⟨b, o, none⟩) n c) (some (.int .i64 1)) none none).run Tryd.prog w = .ok (.slice (if c = 1 then some ⟨b, o, none⟩ else (some (⟨b, o, none⟩ : Addr)).map (·.add (1 * eKy.n))) (n - 1) (c - 1)) w := by
  obtain ⟨i0, hi, hz0, hz1, hz2⟩ := info_parts infoKyL
  have e1 : (0 : Int) ≤ (n : Int) ∧ (n : Int) ≤ (c : Int) := by omega
  have e2 : (0 : Int) ≤ (1 : Int) ∧ (1 : Int) ≤ (n : Int) := by omega
  simp only [Instr.slice, run_underlying Tryd.underlying25, Sem.run_bind, Result.andThen_ok, Instr.sliceBounds, Instr.sliceBound, asIntOf, Sem.run_pure, if_pos e1, if_pos e2, Int.toNat_natCast, run_sizeOf w hi, cellsKyG, show (1 : Int).toNat = 1 from rfl]
theorem row_two' (w : World) (u v : Value) (t : TypeId) : Row (w.alloc (.cells #[u, v] t)) w.heap.size t [u, v].toArray := Row.new w t #[u, v]
set_option maxHeartbeats 4000000 in
theorem joinT_any (u v : Value) (L M : List (Int × Int × Int)) (a : Nat → Addr) (w : World) (hL : ltK L) (hM : ltK M) (h : SlAt eKy w w.heap.size u L) (h2 : SlAt eKy w w.heap.size v M) (hs : Sent w a) :
    Calls Tryd.prog 28 #[u, v] w (GivesE a (jtT L M) (jtC L M) w) := by
  have cV := implValidTrack_any u L w hL h
  have cV2 := fun (W : World) (hW : Below w.heap.size w W) => implValidTrack_any v M W hM (h2.later hW)
  rcases jtC_cases L M with ⟨ho, hc⟩ | ⟨ho, ho2, hc⟩ | hrest
  · obtain ⟨A, c, rfl⟩ := h.form
    obtain ⟨B, d, rfl⟩ := h2.form
    rw [ho] at cV
    rw [hc]
    unfold GivesE
    rw [ifL1 _ (by decide), errV1]
    clear ho hc h h2 cV2
    go_enter Tryd.func28, Tryd.ntmps28
    go_wp2_with (go_at_call 46; refine cV.mono ?_; rintro e w1 ⟨rfl, hb1⟩; have q0 := (hs.below hb1).var0; clear cV hs)
    go_region
    go_wp2
    go_ret2
    exact ⟨_, rfl, OwnL.nil_ _ _ _, hb1.drew⟩
  · obtain ⟨A, c, rfl⟩ := h.form
    obtain ⟨B, d, rfl⟩ := h2.form
    rw [ho] at cV
    rw [ho2] at cV2
    rw [hc]
    unfold GivesE
    rw [ifL1 _ (by decide), errV1]
    have CV2 := Lib.hid cV2
    clear ho ho2 hc h h2 cV2
    go_enter Tryd.func28, Tryd.ntmps28
    go_wp2_with fail
    refine cV.mono ?_
    rintro e w1 ⟨rfl, hb1⟩
    go_wp2_with fail
    refine (CV2.out _ hb1).mono ?_
    rintro e w2 ⟨rfl, hb2⟩
    replace hb1 := grown_below hb1 hb2 hb1.size
    have q0 := (hs.below hb1).var0
    clear hs hb2
    go_wp2
    go_region
    go_wp2
    go_ret2
    exact ⟨_, rfl, OwnL.nil_ _ _ _, hb1.drew⟩
  · have ho : okT L = true := by rcases hrest with h | h | h <;> exact h.1
    have ho2 : okT M = true := by rcases hrest with h | h | h <;> exact h.2.1
    have l1 := (okT_iff.1 ho).1
    have l2 := (okT_iff.1 ho2).1
    have hd := jtD_in ho ho2
    rw [ho] at cV
    rw [ho2] at cV2
    have CV2 := Lib.hid cV2
    have HLast := Lib.hid (fun (w3 : World) (hb3 : Below w.heap.size w w3) => last_any u L w3 (by omega) (by omega) (h.later hb3))
    have HShift := Lib.hid (fun (w3 : World) (hb3 : Below w.heap.size w w3) => shifted_any v M (jtD L M) 0 0 w3 ho2 hd (by decide) (by decide) (h2.later hb3))
    have HU := Lib.hid h
    have hk0 := okT_key ho2 (show 0 < M.length by omega)
    have hkl := okT_key ho (show L.length - 1 < L.length by omega)
    have hdd : jtD L M = (kAt L (L.length - 1)).1 - (kAt M 0).1 := rfl
    have hee : jtE L M = decide ((kAt L (L.length - 1)).2 = (kAt M 0).2) := rfl
    have hsl : (shL (jtD L M) 0 0 M).length = M.length := shL_len _ _ _ _
    have hs0 : kAt (shL (jtD L M) 0 0 M) 0 = ((kAt M 0).1 + jtD L M, (kAt M 0).2.1, (kAt M 0).2.2) := by
      unfold shL kAt
      rw [List.getD_eq_getElem?_getD, tab_get _ (by omega)]
      show shF _ _ _ _ _ = _
      unfold shF kAt
      simp
    obtain ⟨A, c, rfl⟩ := h.form
    obtain ⟨B, d, rfl, m1, m2, hA⟩ := h2
    obtain ⟨b, o, rfl, hbb, r1⟩ := hA (by omega)
    have g0 := range_part r1 (kAt_get (show 0 < M.length by omega))
    rw [eKy_n, Nat.zero_mul, Nat.add_zero] at g0
    have c0 := ky_cell0 g0
    have HT := Lib.hid (jtT_lt ho ho2 hL)
    have HH := Lib.hid hrest
    clear hrest r1 hA m2 cV2 g0 hL hM
    generalize hal : kAt L (L.length - 1) = al at *
    generalize ha0 : kAt M 0 = a0 at *
    generalize hS : shL (jtD L M) 0 0 M = S at *
    obtain ⟨tl, yl, zl⟩ := al
    obtain ⟨t0, y0, z0⟩ := a0
    dsimp only at hk0 hkl hdd hee hs0 c0
    rw [hdd] at HShift hs0
    have hs0' : kAt S 0 = (tl, y0, z0) := by rw [hs0]; congr 1; omega
    have q1 : IntKind.i16.wrap (tl - t0) = tl - t0 := IntWalk.i16_in _ (by omega)
    have hpos : 0 < M.length := by omega
    unfold KC at HLast HShift
    dsimp only at HLast HShift
    clear hs0 hk0 hkl hd
    go_enter Tryd.func28, Tryd.ntmps28
    go_wp2_with fail
    refine cV.mono ?_
    rintro e w1 ⟨rfl, hb⟩
    go_wp2_with fail
    refine (CV2.out _ hb).mono ?_
    rintro e w2 ⟨rfl, hb2⟩
    replace hb := grown_below hb hb2 hb.size
    clear hb2 cV
    replace c0 := (hb.cell (p := ⟨b, o, none⟩) hbb).trans c0
    have c0' := fun dd os => cell_regrown c0 dd os
    have f0 := fun w => ky_field0 tl yl zl w
    go_wp2_with fail
    refine wp_region_tail 10 (by kernel_rfl) (by kernel_rfl) ?_
    simp only [List.take_succ_cons, List.take_zero, List.drop_succ_cons, List.drop_zero]
    repeat (quiet_step (exact Calls.regrown_of (HLast.out _ (grown_below hb (below_regrown _ _ _) hb.size))))
    refine wpQuiet_nil ?_
    intro w3 hb3
    replace hb := grown_below hb hb3 hb.size
    clear hb3 c0 c0' f0 q1
    go_wp2_with fail
    refine (HShift.out _ hb).mono ?_
    rintro r w4 ⟨v4, rfl, hown, hb4⟩
    have hz3 := hb.size
    replace hb := grown_below hb hb4 hb.size
    clear hb4
    obtain ⟨g, cap, rfl, hcap⟩ : ∃ g cap, v4 = .slice (some ⟨g, 0, none⟩) S.length cap ∧ S.length ≤ cap := by
      rcases hown.form with ⟨_, h0⟩ | ⟨g, cap, R, h1, _, _, h3, _, _⟩
      · rw [h0] at hsl; simp at hsl; omega
      · exact ⟨g, cap, h1, h3⟩
    have hsS := hown.sl (by decide)
    obtain ⟨A3, c3, hv3, _, _, hA3⟩ := id hsS
    cases hv3
    obtain ⟨b3, o3, hA4, _, r3⟩ := hA3 (by omega)
    cases hA4
    have g3 := range_part r3 (kAt_get (show 0 < S.length by omega))
    rw [eKy_n, Nat.zero_mul, Nat.add_zero, hs0'] at g3
    have d0 := ky_cell0 g3
    have d1 := ky_cell1 g3
    have d2 := ky_cell2 g3
    dsimp only at d0 d1 d2
    have d0' := fun dd os => cell_regrown d0 dd os
    have d1' := fun dd os => cell_regrown d1 dd os
    have d2' := fun dd os => cell_regrown d2 dd os
    have hq := fun w => run_neq_ky w (tl, y0, z0) (tl, yl, zl)
    rw [show decide (((tl, y0, z0) : Int × Int × Int) = (tl, yl, zl)) = jtE L M by
      rw [hee]; congr 1; simp only [Prod.mk.injEq, true_and, eq_iff_iff]; constructor <;> (rintro ⟨h1, h2⟩; exact ⟨h1.symm, h2.symm⟩)] at hq
    unfold KC at hq
    dsimp only at hq
    have hposS : 0 < S.length := by omega
    have hlS : S.length ≤ 20 := by omega
    have sD := hsS.part (f := 1) (t := S.length) (m := cap) hposS (Nat.le_refl _) hcap (Nat.le_refl _)
    rw [List.take_of_length_le (by rw [List.length_drop]; omega)] at sD
    have hlD : (S.drop 1).length ≤ 20 := by rw [List.length_drop]; omega
    have qS := run_slice_1k g 0 S.length cap hposS hcap
    clear hsS hA3 r3 g3 d0 d1 d2 hsl
    have HD := Lib.hid hS
    have HJ := Lib.hid (show jtT L M = L ++ S.drop 1 by unfold jtT; rw [hS])
    clear hS hee hdd hal ha0 hs0'
    generalize jtE L M = E at *
    generalize S.drop 1 = T1 at *
    go_wp2_with fail
    refine wp_region_calm (by kernel_rfl) (by kernel_rfl) ?_
    repeat (quiet_step (exact Calls.regrown_of (HLast.out _ (grown_below hb (below_regrown _ _ _) hb.size))))
    refine wpQuiet_nil ?_
    intro w5 hb5
    replace sD := sD.later hb5
    replace hb := grown_below hb hb5 hb.size
    clear hb5 d0' d1' d2' hown hq
    generalize (if cap = 1 then (some ({ block := g, off := 0, spot := none } : Addr)) else Option.map (fun x : Addr => x.add (1 * eKy.n)) (some ⟨g, 0, none⟩)) = A2 at *
    rcases HH.out with ⟨_, _, hE, hc⟩ | ⟨_, _, hE, hok, hc⟩ | ⟨_, _, hE, hok, hc⟩
    · subst hE
      have HC := Lib.hid hc
      have q3 := (hs.below hb).var3
      clear hs hc
      go_wp2
      go_region
      go_wp2
      go_ret2
      unfold GivesE
      rw [HC.out, ifL1 _ (by decide), errV4]
      exact ⟨_, rfl, OwnL.nil_ _ _ _, hb.drew⟩
    · subst hE
      have HC := Lib.hid hc
      have HK := Lib.hid hok
      clear hc hok
      go_wp2_with fail
      have hr := row_two' w5 (.slice A L.length c) (.slice A2 (S.length - 1) (cap - 1)) 25
      have hz5 := hb.size
      have hLS := (HU.out.later hb).later ((Below.refl w5.heap.size w5).alloc (Nat.le_refl _) (.cells #[.slice A L.length c, .slice A2 (S.length - 1) (cap - 1)] 25))
      have sD5 := sD.later ((Below.refl w5.heap.size w5).alloc (Nat.le_refl _) (.cells #[.slice A L.length c, .slice A2 (S.length - 1) (cap - 1)] 25))
      have cC := concatK_any w5.heap.size [.slice A L.length c, .slice A2 (S.length - 1) (cap - 1)] [L, T1] _ rfl hr (fun i u N hu hN => by
        match i with
        | 0 => cases hu; cases hN; exact hLS
        | 1 => cases hu; cases hN; exact sD5
        | i + 2 => cases hu) (by simp; omega) (by simp)
      replace hb := hb.alloc hz5 (.cells #[.slice A L.length c, .slice A2 (S.length - 1) (cap - 1)] 25)
      clear hr hLS sD5
      refine cC.mono ?_
      rintro r w6 ⟨v6, rfl, hown6, hb6⟩
      have hz6 := hb.size
      replace hb := grown_below hb hb6 hb.size
      clear hb6 cC
      rw [show [L, T1].flatten = jtT L M by rw [HJ.out]; simp] at hown6
      have cL := limited_any v6 (jtT L M) a w6 HT.out (hown6.sl (by decide)) (hs.below hb)
      obtain ⟨A6, c6, hv6⟩ := hown6.val
      subst hv6
      simp only [HK.out, Bool.false_eq_true, if_false, if_true] at cL
      go_wp2_with fail
      refine cL.mono ?_
      rintro r w7 ⟨rfl, hb7⟩
      replace hown6 := hown6.below hb7
      replace hb := grown_below hb hb7 hb.size
      go_wp2
      go_ret2
      unfold GivesE
      rw [HC.out, ifL1 _ (by decide)]
      exact ⟨_, rfl, OwnL.nil_ _ _ _, hb⟩
    · subst hE
      have HC := Lib.hid hc
      have HK := Lib.hid hok
      clear hc hok
      go_wp2_with fail
      have hr := row_two' w5 (.slice A L.length c) (.slice A2 (S.length - 1) (cap - 1)) 25
      have hz5 := hb.size
      have hLS := (HU.out.later hb).later ((Below.refl w5.heap.size w5).alloc (Nat.le_refl _) (.cells #[.slice A L.length c, .slice A2 (S.length - 1) (cap - 1)] 25))
      have sD5 := sD.later ((Below.refl w5.heap.size w5).alloc (Nat.le_refl _) (.cells #[.slice A L.length c, .slice A2 (S.length - 1) (cap - 1)] 25))
      have cC := concatK_any w5.heap.size [.slice A L.length c, .slice A2 (S.length - 1) (cap - 1)] [L, T1] _ rfl hr (fun i u N hu hN => by
        match i with
        | 0 => cases hu; cases hN; exact hLS
        | 1 => cases hu; cases hN; exact sD5
        | i + 2 => cases hu) (by simp; omega) (by simp)
      replace hb := hb.alloc hz5 (.cells #[.slice A L.length c, .slice A2 (S.length - 1) (cap - 1)] 25)
      clear hr hLS sD5
      refine cC.mono ?_
      rintro r w6 ⟨v6, rfl, hown6, hb6⟩
      have hz6 := hb.size
      replace hb := grown_below hb hb6 hb.size
      clear hb6 cC
      rw [show [L, T1].flatten = jtT L M by rw [HJ.out]; simp] at hown6
      have cL := limited_any v6 (jtT L M) a w6 HT.out (hown6.sl (by decide)) (hs.below hb)
      obtain ⟨A6, c6, hv6⟩ := hown6.val
      subst hv6
      simp only [HK.out, Bool.false_eq_true, if_false, if_true] at cL
      go_wp2_with fail
      refine cL.mono ?_
      rintro r w7 ⟨rfl, hb7⟩
      replace hown6 := hown6.below hb7
      replace hb := grown_below hb hb7 hb.size
      go_wp2
      go_ret2
      unfold GivesE
      rw [HC.out, ifL0]
      exact ⟨_, rfl, hown6.mono hz6, hb⟩
set_option maxHeartbeats 1000000 in
theorem implJoinTracks_any (u v : Value) (L M : List (Int × Int × Int)) (w : World) (a : Nat → Addr) (hL : ltK L) (hM : ltK M) (h : SlAt eKy w w.heap.size u L) (h2 : SlAt eKy w w.heap.size v M) (hs : Sent w a) :
    Calls Tryd.prog 9 #[u, v] w (GivesL eKy 50 (ifL (jtC L M) (jtT L M)) (jtC L M) w) := by
  have cJ := joinT_any u v L M a w hL hM h h2 hs
  have cCo := fun (w3 : World) (hb3 : Below w.heap.size w w3) => codeOf_any (jtC L M) a w3 (hs.below hb3) (jtC_in L M)
  have HO := Lib.hid cCo
  obtain ⟨A, c, rfl⟩ := h.form
  obtain ⟨B, d, rfl⟩ := h2.form
  clear h h2 hs hL hM cCo
  generalize jtC L M = sc at *
  generalize jtT L M = T at *
  go_enter Tryd.func9, Tryd.ntmps9
  go_wp2_with fail
  refine cJ.mono ?_
  rintro r w4 ⟨u4, rfl, hown, hb⟩
  go_wp2_with (go_at_call 29; refine (HO.out _ hb).mono ?_; rintro r w5 ⟨rfl, rfl⟩)
  go_ret2
  exact ⟨_, rfl, hown, hb⟩
end Go.Proofs.YtkcomhbmhgnhhaaDoor
