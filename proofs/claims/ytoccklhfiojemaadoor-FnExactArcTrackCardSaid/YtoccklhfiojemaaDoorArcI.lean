/- impl: lifted. -/
import Derived.Test.YtoccklhfiojemaaDoorArcM
import Derived.Test.YtoccklhfiojemaaDoorShiftI
import Derived.Test.YtoccklhfiojemaaDoorBetw
namespace Go.Proofs.YtoccklhfiojemaaDoor
set_option maxRecDepth 100000
open Go.RowKit
set_option linter.unusedVariables false
set_option linter.unusedSimpArgs false
theorem rowGrown {w w' : World} {row : Option Nat} {g : Nat} {t : TypeId} {cs : Array Value} (h : Row w g t cs) (hg : w.grownBy w' row) (hne : row ≠ some g) : Row w' g t cs := (hg.block g h.lt (fun e => hne e.symm)).trans h
set_option maxHeartbeats 4000000 in
theorem lifted_any (v : Value) (L : List (Int × Int × Int)) (l : Int) (w : World) (ho : okT L = true) (hl : -24 ≤ l ∧ l ≤ 24) (h : SlAt eKy w w.heap.size v L) :
    Calls Tryd.prog 61 #[v, .int .i8 l] w (GivesV eKy 55 (arcL l L) w) := by
  obtain ⟨A, c, rfl, h1, h2, hA⟩ := h
  have hlen := (okT_iff.1 ho).1
  obtain ⟨b1, o1, rfl, hb1, r1⟩ := hA (by omega)
  have hl1 := hlen.1
  have hl2 := hlen.2
  unfold maxLen at h2
  clear hA hlen
  have g0 := range_part r1 (kAt_get (i := 0) (by omega))
  rw [Nat.zero_mul, Nat.add_zero] at g0
  have hA1 : arcTo l L 1 = [kAt L 0] := by rw [arcTo_succ, arcS0]; rfl
  have hown : OwnL eKy (w.alloc (.cells (KC (kAt L 0)) 55)) w.heap.size 55 (.slice (some ⟨w.heap.size, 0, none⟩) 1 1) (arcTo l L 1) := by
    rw [hA1]
    exact OwnL.of_held (L := [kAt L 0]) (E := eKy) (Row.new w 55 (KC (kAt L 0))) (Nat.le_refl _) (by unfold maxLen; simp) (by simp)
  have h0 := (Below.refl w.heap.size w).alloc (Nat.le_refl _) (.cells (KC (kAt L 0)) 55)
  obtain ⟨x0, y0, z0, hk0⟩ : ∃ x y z, kAt L 0 = (x, y, z) := ⟨_, _, _, rfl⟩
  rw [hk0] at g0 hown h0
  have HK := Lib.hid (show kAt L 0 = (x0, y0, z0) ∧ arcTo l L 1 = [kAt L 0] from ⟨hk0, hA1⟩)
  clear hk0 hA1
  have HU := Lib.hid (show arcL l L = arcTo l L L.length from rfl)
  go_enter Tryd.func61, Tryd.ntmps61
  go_wp2_with (first | (refine wpList_load_el (E := eKy) rfl 55 _ rfl _ _ rfl (x0, y0, z0) (KC (x0, y0, z0)) rfl g0 Tryd.underlying55 rfl (by kernel_rfl) ?_) | (refine wpList_build1 (v := .agg (KC (x0, y0, z0))) (cs := KC (x0, y0, z0)) rfl 27 55 _ rfl rfl (fun w => run_build_kys w (x0, y0, z0)) ?_))
  case inl hc1 =>
    have hL1 : L.length = 1 := by omega
    generalize w.alloc (.cells (KC (x0, y0, z0)) 55) = w1 at *
    have g0' := g0
    have r1' := range_below r1 h0 hb1
    have hs1 := h0.size
    have R1 := Lib.hid r1
    have hown' := hown
    clear g0 r1
    go_loopw [5, 17] (fun u i wr => ∃ k : Nat, k + 1 ≤ L.length ∧ i = .int .i64 k ∧ OwnL eKy wr w.heap.size 55 u (arcTo l L (k + 1)) ∧ Below w.heap.size w wr) (fun _ i _ => L.length - (intOf i).toNat)
    case atStart => exact ⟨0, by omega, rfl, hown, h0⟩
    case round =>
      clear hown hown' h0 HK g0' r1'
      obtain ⟨k, hk, rfl, hown, hb⟩ := hrel
      have hk0 : k = 0 := by omega
      subst hk0
      go_wp2
      go_ret
      exact ⟨_, rfl, by rw [HU.out, hL1]; exact hown, hb⟩
  case inr hc1 =>
    generalize w.alloc (.cells (KC (x0, y0, z0)) 55) = w1 at *
    have g0' := g0
    have r1' := range_below r1 h0 hb1
    have hs1 := h0.size
    have R1 := Lib.hid r1
    have hown' := hown
    clear g0 r1
    go_loopw [5, 17] (fun u i wr => ∃ k : Nat, k + 1 ≤ L.length ∧ i = .int .i64 k ∧ OwnL eKy wr w.heap.size 55 u (arcTo l L (k + 1)) ∧ Below w.heap.size w wr) (fun _ i _ => L.length - (intOf i).toNat)
    case atStart => exact ⟨0, by omega, rfl, hown, h0⟩
    case round =>
      clear hown hown' h0 HK g0' r1'
      obtain ⟨k, hk, rfl, hown, hb⟩ := hrel
      by_cases hlt : k + 1 < L.length
      · have g1 := range_below (range_part R1.out (kAt_get hlt)) hb hb1
        have g2 := range_below (range_part R1.out (kAt_get (i := k) (by omega))) hb hb1
        rw [eKy_n] at g1 g2
        rw [show o1 + (k + 1) * 3 = o1 + 3 + k * 3 by omega] at g1
        have q := okT_key ho hlt
        have q' := okT_key ho (i := k) (by omega)
        have hll := arcTo_len l L (k + 1)
        have HS := Lib.hid (arcTo_succ l L (k + 1))
        have HN := Lib.hid (arcS_near l L k)
        have HF := Lib.hid (arcS_far l L k)
        have hsz := hb.size
        obtain ⟨t1, a1, c1, hk1⟩ : ∃ t a c, kAt L (k + 1) = (t, a, c) := ⟨_, _, _, rfl⟩
        obtain ⟨t2, a2, c2, hk2⟩ : ∃ t a c, kAt L k = (t, a, c) := ⟨_, _, _, rfl⟩
        rw [hk1] at g1 q HN HF
        rw [hk2] at g2 q' HN HF
        dsimp only at q q' HN HF
        clear hk1 hk2
        have hkL : (k : Int) < ((L.length - 1 : Nat) : Int) := by omega
        have k1 : IntKind.i16.wrap (t1 - t2) = t1 - t2 := IntWalk.i16_in _ (by omega)
        have n7 := (Row.new wr 55 #[.int .i16 t1, .int .i8 a1, .int .i8 c1]).alloc (.cells #[.int .i16 t2, .int .i8 a2, .int .i8 c2] 55)
        have n8 := Row.new (wr.alloc (.cells #[.int .i16 t1, .int .i8 a1, .int .i8 c1] 55)) 55 #[.int .i16 t2, .int .i8 a2, .int .i8 c2]
        rw [World.size_alloc] at n8
        have g2' := range_below g2 ((Below.refl wr.heap.size wr).alloc (Nat.le_refl _) (.cells #[.int .i16 t1, .int .i8 a1, .int .i8 c1] 55)) (Nat.lt_of_lt_of_le hb1 hsz)
        have hb2 := (hb.alloc hb.size (.cells #[.int .i16 t1, .int .i8 a1, .int .i8 c1] 55)).alloc (by simp; omega) (.cells #[.int .i16 t2, .int .i8 a2, .int .i8 c2] 55)
        have hown2 := (hown.alloc (.cells #[.int .i16 t1, .int .i8 a1, .int .i8 c1] 55)).alloc (.cells #[.int .i16 t2, .int .i8 a2, .int .i8 c2] 55)
        have x7 : ((wr.alloc (.cells #[.int .i16 t1, .int .i8 a1, .int .i8 c1] 55)).alloc (.cells #[.int .i16 t2, .int .i8 a2, .int .i8 c2] 55)).cell? ⟨wr.heap.size, 0, none⟩ = some (.int .i16 t1) := n7.cell 0
        have x8 : ((wr.alloc (.cells #[.int .i16 t1, .int .i8 a1, .int .i8 c1] 55)).alloc (.cells #[.int .i16 t2, .int .i8 a2, .int .i8 c2] 55)).cell? ⟨wr.heap.size + 1, 0, none⟩ = some (.int .i16 t2) := n8.cell 0
        by_cases hg : 2 ≤ t1 - t2
        · have hg' : t1 - t2 ≥ 2 := hg
          have kq : IntKind.i16.wrap (t2 + t1) = t2 + t1 := IntWalk.i16_in _ (by omega)
          have bX := betI_bounds (lo := -24) (hi := 24) (a := a2) (b := a1) (s := 500) q'.2.1 q.2.1 (by omega)
          have bY := betI_bounds (lo := -24) (hi := 24) (a := c2) (b := c1) (s := 500) q'.2.2 q.2.2 (by omega)
          have cB := fun w => between_any t2 a2 c2 t1 a1 c1 500 ((t2 + t1) / 2) w q'.2.1 q'.2.2 q.2.1 q.2.2 (by omega)
          have HV := Lib.hid (HF.out hg)
          clear HN HF
          rw [show midK l (t2, a2, c2) (t1, a1, c1) = ((t2 + t1) / 2, betI a2 a1 500, betI c2 c1 500 - l) from rfl] at HV
          generalize betI a2 a1 500 = X at *
          generalize betI c2 c1 500 = Y at *
          have kY : IntKind.i8.wrap (Y - l) = Y - l := IntWalk.i8_in _ (by omega)
          have kh : IntKind.i16.wrap ((t2 + t1).tdiv 2) = (t2 + t1) / 2 := by rw [Int.tdiv_eq_ediv_of_nonneg (by omega)]; exact IntWalk.i16_in _ (by omega)
          generalize hmm : (t2 + t1) / 2 = m at *
          have cB' : ∀ w, Calls Tryd.prog 68 #[.agg (KC (t2, a2, c2)), .agg (KC (t1, a1, c1)), .int .i64 500, .int .i16 m] w fun r w' => r = .returned (.agg #[.int .i16 m, .int .i8 X, .int .i8 Y]) ∧ Below w.heap.size w w' := cB
          have hn0 : u5.ownBlock ≠ some wr.heap.size := hown.ne_hi (Nat.le_refl _)
          clear cB bX bY q q' hmm
          go_wp2_with (first | (refine wpList_load_el (E := eKy) rfl 55 _ rfl _ _ rfl (t1, a1, c1) #[.int .i16 t1, .int .i8 a1, .int .i8 c1] rfl g1 Tryd.underlying55 rfl (by kernel_rfl) ?_) | (refine wpList_load_el (E := eKy) rfl 55 _ rfl _ _ rfl (t2, a2, c2) #[.int .i16 t2, .int .i8 a2, .int .i8 c2] rfl g2' Tryd.underlying55 rfl (by kernel_rfl) ?_) | (refine wpList_load_row rfl 55 _ rfl _ rfl _ _ _ _ n7 Tryd.underlying55 rfl (by kernel_rfl) ?_) | (refine wpList_load_row rfl 55 _ rfl _ rfl _ _ _ _ n8 Tryd.underlying55 rfl (by kernel_rfl) ?_) | (go_at_call 68; refine (cB' _).mono ?_; rintro r w3 ⟨rfl, hb3⟩; replace hown2 := hown2.below hb3; replace hb2 := grown_below hb2 hb3 hb2.size; have hs3 := hb2.size; replace n7 := n7.below hb3 n7.lt; clear hb3 cB' n8 x7 x8 g1 g2 g2') | (refine wpList_build1 (v := .agg #[.int .i16 m, .int .i8 X, .int .i8 (Y - l)]) (cs := #[.int .i16 m, .int .i8 X, .int .i8 (Y - l)]) rfl 27 55 _ rfl rfl (fun w => run_build_kys w (m, X, Y - l)) ?_) | (refine wpList_build1 (v := .agg #[.int .i16 t1, .int .i8 a1, .int .i8 c1]) (cs := #[.int .i16 t1, .int .i8 a1, .int .i8 c1]) rfl 27 55 _ rfl rfl (fun w => run_build_kys w (t1, a1, c1)) ?_) | (at_builtin; refine wpList_append_one rfl _ _ 27 rfl w.heap.size 55 Tryd.underlying27 infoKyL rfl (by decide) (by omega) ((hown2.alloc (.cells #[.int .i16 m, .int .i8 X, .int .i8 (Y - l)] 55)).alloc (.cells #[.int .i16 m, .int .i8 X, .int .i8 (Y - l)] 55)) rfl (m, X, Y - l) rfl (range_new _ _ #[.int .i16 m, .int .i8 X, .int .i8 (Y - l)]) (by omega) (by simp; omega) ?_; intro v5 w5 hown5 hgrow; replace hb2 := ((hown2.alloc (.cells #[.int .i16 m, .int .i8 X, .int .i8 (Y - l)] 55)).alloc (.cells #[.int .i16 m, .int .i8 X, .int .i8 (Y - l)] 55)).grown_below ((hb2.alloc hb2.size (.cells #[.int .i16 m, .int .i8 X, .int .i8 (Y - l)] 55)).alloc (by simp; omega) (.cells #[.int .i16 m, .int .i8 X, .int .i8 (Y - l)] 55)) hgrow (Nat.le_refl _) (by simp; omega); replace n7 := rowGrown ((n7.alloc (.cells #[.int .i16 m, .int .i8 X, .int .i8 (Y - l)] 55)).alloc (.cells #[.int .i16 m, .int .i8 X, .int .i8 (Y - l)] 55)) hgrow hn0; clear hown2 hgrow hn0; have hs5 := hb2.size; have hl5 : (arcTo l L (k + 1) ++ [(m, X, Y - l)]).length = (arcTo l L (k + 1)).length + 1 := by simp) | (at_builtin; refine wpList_append_one rfl _ _ 27 rfl w.heap.size 55 Tryd.underlying27 infoKyL rfl (by decide) (by omega) (hown5.alloc (.cells #[.int .i16 t1, .int .i8 a1, .int .i8 c1] 55)) rfl (t1, a1, c1) rfl (range_new _ _ #[.int .i16 t1, .int .i8 a1, .int .i8 c1]) (by rw [hl5]; omega) (by simp; omega) ?_; intro v' w6 hown' hgrow))
          go_roundw
          case rel =>
            go_light
            refine ⟨k + 1, by omega, by go_num, ?_, (hown5.alloc _).grown_below (hb2.alloc hb2.size _) hgrow (Nat.le_refl _) (by simp; omega)⟩
            rw [HS.out, HV.out]; simpa using hown'
          case measure => simp [intOf]; omega
        · have hg' : ¬ t1 - t2 ≥ 2 := hg
          replace HN := Lib.hid (HN.out hg)
          clear HF
          go_wp2_with (first | (refine wpList_load_el (E := eKy) rfl 55 _ rfl _ _ rfl (t1, a1, c1) #[.int .i16 t1, .int .i8 a1, .int .i8 c1] rfl g1 Tryd.underlying55 rfl (by kernel_rfl) ?_) | (refine wpList_load_el (E := eKy) rfl 55 _ rfl _ _ rfl (t2, a2, c2) #[.int .i16 t2, .int .i8 a2, .int .i8 c2] rfl g2' Tryd.underlying55 rfl (by kernel_rfl) ?_) | (refine wpList_load_row rfl 55 _ rfl _ rfl _ _ _ _ n7 Tryd.underlying55 rfl (by kernel_rfl) ?_) | (refine wpList_build1 (v := .agg (KC (t1, a1, c1))) (cs := KC (t1, a1, c1)) rfl 27 55 _ rfl rfl (fun w => run_build_kys w (t1, a1, c1)) ?_) | (at_builtin; refine wpList_append_one rfl _ _ 27 rfl w.heap.size 55 Tryd.underlying27 infoKyL rfl (by decide) (by omega) (hown2.alloc (.cells (KC (t1, a1, c1)) 55)) rfl (t1, a1, c1) rfl (range_new _ _ (KC (t1, a1, c1))) (by omega) (by simp; omega) ?_; intro v' w6 hown' hgrow))
          go_roundw
          case rel =>
            go_light
            refine ⟨k + 1, by omega, by go_num, ?_, (hown2.alloc _).grown_below (hb2.alloc hb2.size _) hgrow (Nat.le_refl _) (by simp; omega)⟩
            rw [HS.out, HN.out]; exact hown'
          case measure => simp [intOf]; omega
      · have hkl : L.length = k + 1 := by omega
        have hkL : ¬ (k : Int) < ((L.length - 1 : Nat) : Int) := by omega
        go_wp2
        go_ret
        exact ⟨_, rfl, by rw [HU.out, hkl]; exact hown, hb⟩
end Go.Proofs.YtoccklhfiojemaaDoor
