/- spec: JoinTracks. -/
import Derived.Test.YtkcomhbmhgnhhaaDoorJoinT
import Derived.Test.YtkcomhbmhgnhhaaDoorMade
import Derived.Test.YtkcomhbmhgnhhaaDoorTrack
import Derived.RangeFuncBox
namespace Go.Proofs.YtkcomhbmhgnhhaaDoor
set_option maxRecDepth 100000
open Go.RowKit
set_option linter.unusedVariables false
set_option linter.unusedSimpArgs false
def jtF (L M : List (Int × Int × Int)) (k : Nat) : Int × Int × Int := ((kAt M (k + 1)).1 + jtD L M, (kAt M (k + 1)).2.1, (kAt M (k + 1)).2.2)
theorem tab_tail (f : Nat → Int × Int × Int) : ∀ n, (tab f n).drop 1 = tab (fun k => f (k + 1)) (n - 1)
  | 0 => rfl
  | 1 => rfl
  | n + 2 => by
    rw [tab_succ, List.drop_append_of_le_length (by rw [tab_length]; omega), tab_tail f (n + 1), show n + 2 - 1 = (n + 1 - 1) + 1 by omega, tab_succ]
    simp
theorem jt_tab (L M : List (Int × Int × Int)) : jtT L M = L ++ tab (jtF L M) (M.length - 1) := by
  unfold jtT shL
  rw [tab_tail]
  congr 1
  refine tab_congr fun i _ => ?_
  unfold shF jtF
  simp
set_option maxHeartbeats 4000000 in
theorem specJoinTracks_any (u v : Value) (L M : List (Int × Int × Int)) (w : World) (hL : ltK L) (hM : ltK M) (h : SlAt eKy w w.heap.size u L) (h2 : SlAt eKy w w.heap.size v M) :
    Calls Tryd.prog 7 #[u, v] w (GivesL eKy 50 (ifL (jtC L M) (jtT L M)) (jtC L M) w) := by
  have cO := specOkT_any u L w hL h
  have cO2 := fun (W : World) (hW : Below w.heap.size w W) => specOkT_any v M W hM (h2.later hW)
  rcases jtC_cases L M with ⟨ho, hc⟩ | ⟨ho, ho2, hc⟩ | hrest
  · obtain ⟨A, c, rfl⟩ := h.form
    obtain ⟨B, d, rfl⟩ := h2.form
    have HC := Lib.hid hc
    rw [ho] at cO
    clear ho hc h h2 cO2
    go_enter Tryd.func7, Tryd.ntmps7
    go_wp2_with (go_at_call 22; refine cO.mono ?_; rintro r w1 ⟨rfl, hb⟩; clear cO)
    go_ret2
    rw [HC.out, ifL1 _ (by decide)]
    exact ⟨_, rfl, OwnL.made _ w.heap.size 50 hb.size, hb.alloc hb.size _⟩
  · obtain ⟨A, c, rfl⟩ := h.form
    obtain ⟨B, d, rfl⟩ := h2.form
    have HC := Lib.hid hc
    rw [ho] at cO
    rw [ho2] at cO2
    have CO2 := Lib.hid cO2
    clear ho ho2 hc h h2 cO2
    go_enter Tryd.func7, Tryd.ntmps7
    go_wp2_with fail
    refine cO.mono ?_
    rintro r w1 ⟨rfl, hb⟩
    go_wp2_with fail
    refine (CO2.out _ hb).mono ?_
    rintro r w2 ⟨rfl, hb2⟩
    replace hb := grown_below hb hb2 hb.size
    clear hb2 cO
    go_wp2
    go_ret2
    rw [HC.out, ifL1 _ (by decide)]
    exact ⟨_, rfl, OwnL.made _ w.heap.size 50 hb.size, hb.alloc hb.size _⟩
  · have ho : okT L = true := by rcases hrest with h | h | h <;> exact h.1
    have ho2 : okT M = true := by rcases hrest with h | h | h <;> exact h.2.1
    have l1 := (okT_iff.1 ho).1
    have l2 := (okT_iff.1 ho2).1
    have hd := jtD_in ho ho2
    rw [ho] at cO
    rw [ho2] at cO2
    have CO2 := Lib.hid cO2
    have hk0 := okT_key ho2 (show 0 < M.length by omega)
    have hkl := okT_key ho (show L.length - 1 < L.length by omega)
    have hdd : jtD L M = (kAt L (L.length - 1)).1 - (kAt M 0).1 := rfl
    have hee : jtE L M = decide ((kAt L (L.length - 1)).2 = (kAt M 0).2) := rfl
    obtain ⟨A, c, rfl, m3, _, hA⟩ := h
    obtain ⟨B, d, rfl, m1, m2, hB⟩ := h2
    obtain ⟨b1, o1, rfl, hbb1, r1⟩ := hA (by omega)
    obtain ⟨b, o, rfl, hbb, r2⟩ := hB (by omega)
    have g0 := range_part r2 (kAt_get (show 0 < M.length by omega))
    have gl := range_part r1 (kAt_get (show L.length - 1 < L.length by omega))
    rw [eKy_n, Nat.zero_mul, Nat.add_zero] at g0
    rw [eKy_n] at gl
    have HO2 := Lib.hid ho2
    have HO1 := Lib.hid ho
    have HH := Lib.hid hrest
    have HD := Lib.hid (show jtD L M = jtD L M from rfl)
    clear hrest hA hB m2 cO2 ho2 ho
    generalize hal : kAt L (L.length - 1) = al at *
    generalize ha0 : kAt M 0 = a0 at *
    obtain ⟨tl, yl, zl⟩ := al
    obtain ⟨t0, y0, z0⟩ := a0
    dsimp only at hk0 hkl hdd hee
    have hposL : 0 < L.length := by omega
    have hpos : 0 < M.length := by omega
    have hml : L.length - 1 < L.length := by omega
    have q0 : IntKind.i64.wrap ((L.length : Int) - 1) = ((L.length - 1 : Nat) : Int) := by rw [IntKind.wrap_i64]; omega
    have HDD := Lib.hid hdd
    have HA0 := Lib.hid ha0
    clear hal ha0 hdd
    generalize L.length - 1 = ml at *
    go_enter Tryd.func7, Tryd.ntmps7
    go_wp2_with fail
    refine cO.mono ?_
    rintro r w1 ⟨rfl, hb⟩
    go_wp2_with fail
    refine (CO2.out _ hb).mono ?_
    rintro r w2 ⟨rfl, hb2⟩
    replace hb := grown_below hb hb2 hb.size
    clear hb2 cO
    replace gl := range_below gl hb hbb1
    have bX := Row.new w2 50 (KC (tl, yl, zl))
    have hz2 := hb.size
    go_wp2_with (first | (refine wpList_load_el (E := eKy) rfl 50 _ rfl _ _ rfl (tl, yl, zl) (KC (tl, yl, zl)) rfl gl Tryd.underlying50 rfl (by kernel_rfl) ?_) | (refine wpList_store_row rfl 50 _ _ rfl _ rfl (Row.new w2 50 _) rfl rfl (by simp [Value.oneCell', KC]) (by kernel_rfl) ?_; rw [setRow_new]))
    replace hb := hb.alloc hb.size (.cells (KC (tl, yl, zl)) 50)
    clear gl q0
    generalize w2.alloc _ = w3 at *
    generalize w2.heap.size = Bx at *
    replace g0 := range_below g0 hb hbb
    have c0 := ky_cell0 g0
    have c1 := ky_cell1 g0
    have c2 := ky_cell2 g0
    dsimp only at c0 c1 c2
    have x0 : w3.cell? ⟨Bx, 0, none⟩ = some (.int .i16 tl) := Row.cell bX 0
    have x1 : w3.cell? ⟨Bx, 1, none⟩ = some (.int .i8 yl) := Row.cell bX 1
    have x2 : w3.cell? ⟨Bx, 2, none⟩ = some (.int .i8 zl) := Row.cell bX 2
    have c1' := fun dd os => cell_regrown c1 dd os
    have c2' := fun dd os => cell_regrown c2 dd os
    have x1' := fun dd os => cell_regrown x1 dd os
    have x2' := fun dd os => cell_regrown x2 dd os
    clear c0 c1 c2 x0 x1 x2
    by_cases hy : yl = y0
    case neg =>
      have HE := Lib.hid (show jtE L M = false by rw [hee]; simp; intro h; exact absurd h hy)
      have e1 : (yl == y0) = false := by simp [hy]
      have e1' : (yl != y0) = true := by simp [hy]
      clear hee hy
      refine wp_region_calm (by kernel_rfl) (by kernel_rfl) ?_
      repeat (quiet_step (fail))
      refine wpQuiet_nil ?_
      intro w4 hb4
      replace hb := grown_below hb hb4 hb.size
      replace bX := bX.below hb4 bX.lt
      clear hb4 c1' c2' x1' x2'
      go_wp2
      go_ret2
      have HC := Lib.hid (show jtC L M = 4 by
        rcases HH.out with ⟨_, _, _, h⟩ | ⟨_, _, h, _⟩ | ⟨_, _, h, _⟩
        · exact h
        · rw [HE.out] at h; cases h
        · rw [HE.out] at h; cases h)
      rw [HC.out, ifL1 _ (by decide)]
      exact ⟨_, rfl, OwnL.made _ w.heap.size 50 hb.size, hb.alloc hb.size _⟩
    case pos =>
      by_cases hz : zl = z0
      case neg =>
        have HE := Lib.hid (show jtE L M = false by rw [hee]; simp; intro _ h; exact absurd h hz)
        have e1 : (yl == y0) = true := by simp [hy]
        have e1' : (yl != y0) = false := by simp [hy]
        have e2 : (zl == z0) = false := by simp [hz]
        have e2' : (zl != z0) = true := by simp [hz]
        clear hee hy hz
        refine wp_region_calm (by kernel_rfl) (by kernel_rfl) ?_
        repeat (quiet_step (fail))
        refine wpQuiet_nil ?_
        intro w4 hb4
        replace hb := grown_below hb hb4 hb.size
        replace bX := bX.below hb4 bX.lt
        clear hb4 c1' c2' x1' x2'
        go_wp2
        go_ret2
        have HC := Lib.hid (show jtC L M = 4 by
          rcases HH.out with ⟨_, _, _, h⟩ | ⟨_, _, h, _⟩ | ⟨_, _, h, _⟩
          · exact h
          · rw [HE.out] at h; cases h
          · rw [HE.out] at h; cases h)
        rw [HC.out, ifL1 _ (by decide)]
        exact ⟨_, rfl, OwnL.made _ w.heap.size 50 hb.size, hb.alloc hb.size _⟩
      case pos =>
        have HE := Lib.hid (show jtE L M = true by rw [hee, hy, hz]; simp)
        have HC := Lib.hid (show jtC L M = mdC (jtT L M) by
          unfold mdC
          rcases HH.out with ⟨_, _, h, _⟩ | ⟨_, _, _, h, h'⟩ | ⟨_, _, _, h, h'⟩
          · rw [HE.out] at h; cases h
          · rw [h, h']; rfl
          · rw [h, h']; rfl)
        have e1 : (yl == y0) = true := by simp [hy]
        have e1' : (yl != y0) = false := by simp [hy]
        have e2 : (zl == z0) = true := by simp [hz]
        have e2' : (zl != z0) = false := by simp [hz]
        clear hee hy hz
        refine wp_region_calm (by kernel_rfl) (by kernel_rfl) ?_
        repeat (quiet_step (fail))
        refine wpQuiet_nil ?_
        intro w4 hb4
        replace hb := grown_below hb hb4 hb.size
        replace bX := bX.below hb4 bX.lt
        clear hb4 c1' c2' x1' x2'
        have hown := OwnL.made (E := e3) w4 w.heap.size 52 hb.size
        replace bX := bX.alloc (.cells #[] 52)
        have hz4 := hb.size
        replace hb := hb.alloc hb.size (.cells #[] 52)
        go_wp2_with fail
        go_loopw [7, 8] (fun u i wr => ∃ k : Nat, k ≤ L.length ∧ i = .int .i64 k ∧ OwnL e3 wr w.heap.size 52 u (L.take k) ∧ Row wr Bx 50 (KC (tl, yl, zl)) ∧ Below w.heap.size w wr) (fun _ i _ => L.length - (intOf i).toNat)
        case atStart => exact ⟨0, by omega, rfl, hown, bX, hb⟩
        case round =>
          clear hown bX hb
          obtain ⟨k, hk, rfl, hown, bX, hb⟩ := hrel
          by_cases hlt : k < L.length
          · have g1 := range_below (range_part r1 (kAt_get hlt)) hb hbb1
            rw [eKy_n] at g1
            have q := okT_key HO1.out hlt
            have HS := Lib.hid (show L.take (k + 1) = L.take k ++ [kAt L k] by rw [List.take_add_one, kAt_get hlt]; rfl)
            have hll : (L.take k).length ≤ 1000 := by rw [List.length_take]; omega
            generalize kAt L k = a at *
            obtain ⟨x, y, z⟩ := a
            dsimp only at q
            have cN := fun w => numbers_any x y z w ⟨by omega, by omega⟩ ⟨by omega, by omega⟩ ⟨by omega, by omega⟩
            clear q
            go_wp2_with (first | (refine wpList_load_el (E := eKy) rfl 50 _ rfl _ _ rfl (x, y, z) (KC (x, y, z)) rfl g1 Tryd.underlying50 rfl (by kernel_rfl) ?_) | (go_at_call 23; refine (cN _).mono ?_; rintro r w3 ⟨rfl, hb3⟩; replace hown := hown.below hb3; replace bX := bX.below hb3 bX.lt; replace hb := grown_below hb hb3 hb.size; clear hb3 cN g1; have hsz := hb.size) | (refine wpList_build1 (v := .agg (N3 (x, y, z))) (cs := N3 (x, y, z)) rfl 51 52 _ rfl rfl (fun w => run_build_n3s w (x, y, z)) ?_) | (at_builtin; refine wpList_append_one rfl _ _ 51 rfl w.heap.size 52 Tryd.underlying51 infoN3 rfl (by decide) (by omega) (hown.alloc (.cells (N3 (x, y, z)) 52)) rfl (x, y, z) rfl (range_new _ _ (N3 (x, y, z))) (by omega) (by rw [World.size_alloc]; omega) ?_; intro v' w6 hown' hgrow))
            go_roundw
            case rel =>
              go_light
              refine ⟨k + 1, by omega, by go_num, by rw [HS.out]; exact hown', grown_row (bX.alloc _) hgrow (hown.ne_type bX (by decide)), (hown.alloc _).grown_below (hb.alloc hb.size _) hgrow (Nat.le_refl _) (by rw [World.size_alloc]; omega)⟩
            case measure => (simp [intOf]) <;> omega
          · obtain rfl : k = L.length := by omega
            rw [List.take_length] at hown
            clear r1 hlt hk
            have g0 := range_part r2 (kAt_get hpos)
            have hl0 := bX.lt
            go_wp2_with fail
            go_loopw [7, 9] (fun u i wr => ∃ k : Nat, k ≤ M.length - 1 ∧ i = .int .i64 ((k + 1 : Nat) : Int) ∧ OwnL e3 wr w.heap.size 52 u (L ++ tab (jtF L M) k) ∧ Row wr Bx 50 (KC (tl, yl, zl)) ∧ Below w.heap.size w wr) (fun _ i _ => M.length - (intOf i).toNat)
            case atStart => exact ⟨0, by omega, rfl, by rw [tab_zero, List.append_nil]; exact hown, bX, hb⟩
            case round =>
              clear hown bX hb
              obtain ⟨k, hk, rfl, hown, bX, hb⟩ := hrel
              by_cases hlt : k + 1 < M.length
              · have g1 := range_below (range_part r2 (kAt_get hlt)) hb hbb
                rw [eKy_n] at g1
                have q := okT_key HO2.out hlt
                have HF := Lib.hid (show jtF L M k = ((kAt M (k + 1)).1 + jtD L M, (kAt M (k + 1)).2.1, (kAt M (k + 1)).2.2) from rfl)
                have HS := Lib.hid (show L ++ tab (jtF L M) (k + 1) = (L ++ tab (jtF L M) k) ++ [jtF L M k] by rw [tab_succ, List.append_assoc])
                have hll : (L ++ tab (jtF L M) k).length ≤ 1000 := by rw [List.length_append, tab_length]; omega
                have hpl : ((k + 1 : Nat) : Int) < (M.length : Int) := by omega
                generalize kAt M (k + 1) = a at *
                obtain ⟨x, y, z⟩ := a
                dsimp only at q
                have cN := fun w => numbers_any x y z w ⟨by omega, by omega⟩ ⟨by omega, by omega⟩ ⟨by omega, by omega⟩
                have n1 : IntKind.i64.wrap tl = tl := IntWalk.i64_in _ (by omega)
                have n2 : IntKind.i64.wrap t0 = t0 := IntWalk.i64_in _ (by omega)
                have n3 : IntKind.i64.wrap (tl - t0) = tl - t0 := IntWalk.i64_in _ (by omega)
                have n4 : IntKind.i64.wrap (x + (tl - t0)) = x + (tl - t0) := IntWalk.i64_in _ (by omega)
                clear q
                go_wp2_with (first | (refine wpList_load_el (E := eKy) rfl 50 _ rfl _ _ rfl (x, y, z) (KC (x, y, z)) rfl g1 Tryd.underlying50 rfl (by kernel_rfl) ?_) | (go_at_call 23; refine (cN _).mono ?_; rintro r w3 ⟨rfl, hb3⟩; replace hown := hown.below hb3; replace bX := bX.below hb3 bX.lt; replace hb := grown_below hb hb3 hb.size; clear hb3 cN g1) | (refine wpList_store_row rfl 52 _ _ rfl _ rfl (Row.new w3 52 _) rfl rfl (by simp [Value.oneCell', N3]) (by kernel_rfl) ?_; rw [setRow_new]))
                have bA := Row.new w3 52 (N3 (x, y, z))
                have hsA := hb.size
                have hne := hown.ne_hi (Nat.le_refl w3.heap.size)
                have hXA : Bx ≠ w3.heap.size := by have := bX.lt; omega
                replace hown := hown.alloc (.cells (N3 (x, y, z)) 52)
                replace bX := bX.alloc (.cells (N3 (x, y, z)) 52)
                replace hb := hb.alloc hb.size (.cells (N3 (x, y, z)) 52)
                generalize w3.alloc _ = w4 at *
                generalize w3.heap.size = Ba at *
                have g2 := range_below g0 hb hbb
                rw [eKy_n, Nat.zero_mul, Nat.add_zero, HA0.out] at g2
                have c0 := ky_cell0 g2
                have x0 : w4.cell? ⟨Bx, 0, none⟩ = some (.int .i16 tl) := Row.cell bX 0
                have a0 : w4.cell? ⟨Ba, 0, none⟩ = some (.int .i64 x) := Row.cell bA 0
                have c0' := fun dd os => cell_regrown c0 dd os
                have x0' := fun dd os => cell_regrown x0 dd os
                have a0' := fun dd os => cell_regrown a0 dd os
                clear g2 c0 x0 a0
                refine wp_region_tail 13 (by kernel_rfl) (by kernel_rfl) ?_
                simp only [List.take_succ_cons, List.take_zero, List.drop_succ_cons, List.drop_zero]
                repeat (quiet_step (fail))
                refine wpQuiet_nil ?_
                intro w5 hb5
                have bA5 := bA.below hb5 bA.lt
                replace bX := bX.below hb5 bX.lt
                replace hown := hown.below hb5
                replace hb := grown_below hb hb5 hb.size
                clear bA hb5 c0' x0' a0' n1 n2 n3 n4
                have cA5 : w5.cell? ⟨Ba, 0, none⟩ = some (.int .i64 x) := Row.cell bA5 0
                have fA5 := Row.free bA5 0
                have bA6 : Row (w5.setCell ⟨Ba, 0, none⟩ (.int .i64 (x + (tl - t0)))) Ba 52 (N3 (x + (tl - t0), y, z)) := Row.set bA5 0 (.int .i64 (x + (tl - t0)))
                have hg6 := grownBy_setCell' w5 Ba (.int .i64 (x + (tl - t0)))
                replace hown := hown.kept hg6 (.inr hne)
                have bX6 := grown_row bX hg6 (fun e => hXA (by cases e; rfl))
                replace hb := hb.setCell (p := ⟨Ba, 0, none⟩) hsA (.int .i64 (x + (tl - t0)))
                have hsz := hb.size
                go_wp2_with (first | (refine wpList_load_row rfl 52 _ rfl _ rfl _ _ _ _ bA6 Tryd.underlying52 rfl (by kernel_rfl) ?_) | (refine wpList_build1 (v := .agg (N3 (x + (tl - t0), y, z))) (cs := N3 (x + (tl - t0), y, z)) rfl 51 52 _ rfl rfl (fun w => run_build_n3s w (x + (tl - t0), y, z)) ?_) | (at_builtin; refine wpList_append_one rfl _ _ 51 rfl w.heap.size 52 Tryd.underlying51 infoN3 rfl (by decide) (by omega) (hown.alloc (.cells (N3 (x + (tl - t0), y, z)) 52)) rfl (x + (tl - t0), y, z) rfl (range_new _ _ (N3 (x + (tl - t0), y, z))) (by omega) (by rw [World.size_alloc]; omega) ?_; intro v' w6 hown' hgrow))
                go_roundw
                case rel =>
                  go_light
                  refine ⟨k + 1, by omega, by go_num, by rw [HS.out, HF.out, HDD.out]; exact hown', grown_row (bX6.alloc _) hgrow (hown.ne_type bX6 (by decide)), (hown.alloc _).grown_below (hb.alloc hb.size _) hgrow (Nat.le_refl _) (by rw [World.size_alloc]; omega)⟩
                case measure => (simp [intOf]) <;> omega
              · obtain rfl : k = M.length - 1 := by omega
                rw [← jt_tab] at hown
                have hml2 : ¬ ((M.length - 1 + 1 : Nat) : Int) < (M.length : Int) := by omega
                obtain ⟨A4, c4, hv4⟩ := hown.val
                subst hv4
                clear r2 hlt hk g0
                go_wp2_with fail
                refine (made_any _ (jtT L M) _ (by rw [jt_len]; omega) (hown.sl (by decide))).mono ?_
                rintro r w4 ⟨u4, rfl, hown4, hb4⟩
                go_wp2
                go_ret2
                rw [HC.out]
                exact ⟨_, rfl, hown4.mono hb.size, grown_below hb hb4 hb.size⟩
end Go.Proofs.YtkcomhbmhgnhhaaDoor
