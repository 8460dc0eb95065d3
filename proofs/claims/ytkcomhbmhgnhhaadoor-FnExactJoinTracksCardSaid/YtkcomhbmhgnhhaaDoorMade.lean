/- spec: l03Numbers, l03Made. -/
import Derived.Test.YtkcomhbmhgnhhaaDoorShift
import Derived.Test.YtkcomhbmhgnhhaaDoorQuiet2
namespace Go.Proofs.YtkcomhbmhgnhhaaDoor
set_option maxRecDepth 100000
open Go.RowKit
set_option linter.unusedVariables false
set_option linter.unusedSimpArgs false
def N3 (s : Int × Int × Int) : Array Value := #[.int .i64 s.1, .int .i64 s.2.1, .int .i64 s.2.2]
def e3 : Enc (Int × Int × Int) := ⟨fun s => (N3 s).toList, 3, fun _ => rfl, fun s v hv => by simp [N3] at hv; rcases hv with rfl | rfl | rfl <;> rfl⟩
theorem e3_n : e3.n = 3 := rfl
theorem n3_cell0 {w : World} {b o : Nat} {s : Int × Int × Int} (h : w.rangeAt b o (N3 s).toList) : w.cell? ⟨b, o, none⟩ = some (.int .i64 s.1) := h 0 _ rfl
theorem n3_cell1 {w : World} {b o : Nat} {s : Int × Int × Int} (h : w.rangeAt b o (N3 s).toList) : w.cell? ⟨b, o + 1, none⟩ = some (.int .i64 s.2.1) := h 1 _ rfl
theorem n3_cell2 {w : World} {b o : Nat} {s : Int × Int × Int} (h : w.rangeAt b o (N3 s).toList) : w.cell? ⟨b, o + 2, none⟩ = some (.int .i64 s.2.2) := h 2 _ rfl
theorem infoN3 : (Tryd.prog.info? 52).map (fun i => (i.zero, i.size, i.bytes)) = some (some (.agg (N3 zeroK)), e3.n, 24) := by kernel_rfl
theorem run_build_n3s (w : World) (s : Int × Int × Int) : (Instr.buildSlice 51 1 #[(0, .agg (N3 s))]).run Tryd.prog w = .ok (.slice (some ⟨w.heap.size, 0, none⟩) 1 1) (w.alloc (.cells (N3 s) 52)) := by kernel_rfl
set_option maxHeartbeats 1000000 in
theorem numbers_any (x y z : Int) (w : World) (hx : -32768 ≤ x ∧ x ≤ 32767) (hy : -128 ≤ y ∧ y ≤ 127) (hz : -128 ≤ z ∧ z ≤ 127) :
    Calls Tryd.prog 23 #[.agg (KC (x, y, z))] w fun e w' => e = .returned (.agg (N3 (x, y, z))) ∧ Below w.heap.size w w' := by
  have k1 : IntKind.i64.wrap x = x := IntWalk.i64_in _ (by omega)
  have k2 : IntKind.i64.wrap y = y := IntWalk.i64_in _ (by omega)
  have k3 : IntKind.i64.wrap z = z := IntWalk.i64_in _ (by omega)
  have hb := ((Below.refl w.heap.size w).alloc (Nat.le_refl _) (.cells (KC (x, y, z)) 50)).alloc (by simp) (.cells (N3 (x, y, z)) 52)
  have r := Row.new (w.alloc (.cells (KC (x, y, z)) 50)) 52 (N3 (x, y, z))
  rw [World.size_alloc] at r
  clear hx hy hz
  go_enter Tryd.func23, Tryd.ntmps23
  unfold KC
  go_wp2
  refine bodyPost_ret_row (p := 2) (ty := 52) (cs := N3 (x, y, z)) rfl rfl r Tryd.underlying52 rfl (by kernel_rfl) rfl ⟨rfl, hb⟩
def mdC (N : List (Int × Int × Int)) : Int := if okT N then 0 else 3
theorem inK_lt {N : List (Int × Int × Int)} (h : ∀ j, j < N.length → inK (kAt N j) = true) : ltK N := by
  intro x hx
  obtain ⟨i, hi⟩ := List.getElem?_of_mem hx
  have hlt := (List.getElem?_eq_some_iff.1 hi).1
  have := h i hlt
  rw [kAt_get hlt] at hi
  rw [Option.some.inj hi] at this
  unfold inK at this
  simp only [Bool.and_eq_true] at this
  have q1 := inB_iff.1 this.1
  have q2 := inB_iff.1 this.2.1
  have q3 := inB_iff.1 this.2.2
  unfold ltK1
  omega
set_option maxHeartbeats 4000000 in
theorem made_any (v : Value) (N : List (Int × Int × Int)) (w : World) (hNl : N.length ≤ 1000) (h : SlAt e3 w w.heap.size v N) :
    Calls Tryd.prog 24 #[v] w (GivesL eKy 50 (ifL (mdC N) N) (mdC N) w) := by
  obtain ⟨A, c, rfl, h1, h2, hA⟩ := h
  unfold maxLen at h2
  have hown := OwnL.made (E := eKy) w w.heap.size 50 (Nat.le_refl _)
  have h0 := (Below.refl w.heap.size w).alloc (Nat.le_refl _) (.cells #[] 50)
  go_enter Tryd.func24, Tryd.ntmps24
  go_wp2
  go_loopw [4, 5] (fun u i wr => ∃ k : Nat, k ≤ N.length ∧ i = .int .i64 k ∧ (∀ j, j < k → inK (kAt N j) = true) ∧ OwnL eKy wr w.heap.size 50 u (N.take k) ∧ Below w.heap.size w wr) (fun _ i _ => N.length - (intOf i).toNat)
  case atStart => exact ⟨0, by omega, rfl, by omega, by simpa using hown, h0⟩
  case round =>
    clear hown h0
    obtain ⟨k, hk, rfl, he, hown, hb⟩ := hrel
    have HE := Lib.hid he
    clear he
    by_cases hlt : k < N.length
    · obtain ⟨b1, o1, rfl, hb1, r1⟩ := hA (by omega)
      have g1 := range_below (range_part r1 (kAt_get hlt)) hb hb1
      rw [e3_n] at g1
      have c0 := n3_cell0 g1
      have c1 := n3_cell1 g1
      have c2 := n3_cell2 g1
      have HT := Lib.hid (fun h => stepK_in (L := N) (i := k) (inK_t h))
      have HX := Lib.hid (fun h => stepK_in (L := N) (i := k) (inK_x h))
      have HY := Lib.hid (fun h => stepK_in (L := N) (i := k) (inK_y h))
      have HI := Lib.hid (fun h h2 h3 => inK_ok (k := kAt N k) h h2 h3)
      have HS := Lib.hid (show N.take (k + 1) = N.take k ++ [kAt N k] by rw [List.take_add_one, kAt_get hlt]; rfl)
      clear hA r1 g1
      obtain ⟨t, x, y, hxy⟩ : ∃ t x y, kAt N k = (t, x, y) := ⟨_, _, _, rfl⟩
      rw [hxy] at c0 c1 c2 HT HX HY HI HS
      dsimp only at c0 c1 c2 HT HX HY HI
      have HK := Lib.hid hxy
      clear hxy
      have cT := fun w => specTick_any t w
      have cX := fun w => specReach_any x w
      have cY := fun w => specReach_any y w
      cases hT : inB t 0 200 with
      | false =>
        rw [hT] at cT
        have HF := Lib.hid (HT.out hT)
        clear hT HT HX HY HI HS cX cY
        go_wp2_with (go_at_call 36; refine (cT _).mono ?_; rintro e w9 ⟨rfl, rfl⟩)
        go_ret2
        have HC := (show mdC N = 3 by unfold mdC; rw [okT_at hlt HF.out]; rfl)
        rw [HC, ifL1 _ (by decide)]
        exact ⟨_, rfl, OwnL.made _ w.heap.size 50 hb.size, hb.alloc hb.size _⟩
      | true =>
        rw [hT] at cT
        cases hX : inB x (-24) 24 with
        | false =>
          rw [hX] at cX
          have HF := Lib.hid (HX.out hX)
          clear hT hX HT HX HY HI HS cY
          go_wp2_with (first | (go_at_call 36; refine (cT _).mono ?_; rintro e w9 ⟨rfl, rfl⟩) | (go_at_call 44; refine (cX _).mono ?_; rintro e w9 ⟨rfl, rfl⟩))
          go_ret2
          have HC := (show mdC N = 3 by unfold mdC; rw [okT_at hlt HF.out]; rfl)
          rw [HC, ifL1 _ (by decide)]
          exact ⟨_, rfl, OwnL.made _ w.heap.size 50 hb.size, hb.alloc hb.size _⟩
        | true =>
          rw [hX] at cX
          cases hY : inB y (-24) 24 with
          | false =>
            rw [hY] at cY
            have HF := Lib.hid (HY.out hY)
            clear hT hX hY HT HX HY HI HS
            go_wp2_with (first | (go_at_call 36; refine (cT _).mono ?_; rintro e w9 ⟨rfl, rfl⟩) | (go_at_call 44; first | (refine (cX _).mono ?_; rintro e w9 ⟨rfl, rfl⟩; clear cX) | (refine (cY _).mono ?_; rintro e w9 ⟨rfl, rfl⟩; clear cY)))
            go_ret2
            have HC := (show mdC N = 3 by unfold mdC; rw [okT_at hlt HF.out]; rfl)
            rw [HC, ifL1 _ (by decide)]
            exact ⟨_, rfl, OwnL.made _ w.heap.size 50 hb.size, hb.alloc hb.size _⟩
          | true =>
            rw [hY] at cY
            have HF := Lib.hid (HI.out hT hX hY)
            have q1 := inB_iff.1 hT
            have q2 := inB_iff.1 hX
            have q3 := inB_iff.1 hY
            have k1 : IntKind.i16.wrap t = t := IntWalk.i16_in _ (by omega)
            have k2 : IntKind.i8.wrap x = x := IntWalk.i8_in _ (by omega)
            have k3 : IntKind.i8.wrap y = y := IntWalk.i8_in _ (by omega)
            have hll : (N.take k).length ≤ 1000 := by rw [List.length_take]; omega
            clear hT hX hY HT HX HY HI q1 q2 q3
            go_wp2_with (first | (go_at_call 36; refine (cT _).mono ?_; rintro e w9 ⟨rfl, rfl⟩) | (go_at_call 44; first | (refine (cX _).mono ?_; rintro e w9 ⟨rfl, rfl⟩; clear cX) | (refine (cY _).mono ?_; rintro e w9 ⟨rfl, rfl⟩; clear cY)))
            have y0 := cell_q c0
            have y1 := cell_q c1
            have y2 := cell_q c2
            have hki : (k : Int) < (N.length : Int) := by omega
            refine wp_region_pre_tail 1 20 (by kernel_rfl) (by kernel_rfl) ?_
            simp only [List.take_succ_cons, List.take_zero, List.drop_succ_cons, List.drop_zero, runMoves, moveOf, Option.isNone_none, if_true]
            go_simp
            repeat (quiet_step (fail))
            refine wpQuiet_nil ?_
            intro w3 hb3
            replace hown := hown.below hb3
            replace hb := grown_below hb hb3 hb.size
            have hsz := hb.size
            go_wp2_with (first | (refine wpList_build1 (v := .agg (KC (t, x, y))) (cs := KC (t, x, y)) rfl 25 50 _ rfl rfl (fun w => run_build_kys w (t, x, y)) ?_) | (at_builtin; refine wpList_append_one rfl _ _ 25 rfl w.heap.size 50 Tryd.underlying25 infoKyL rfl (by decide) (by omega) (hown.alloc (.cells (KC (t, x, y)) 50)) rfl (t, x, y) rfl (range_new _ _ (KC (t, x, y))) (by omega) (by simp; omega) ?_; intro v' w6 hown' hgrow))
            rw [normalOnly_normal]
            go_wp2
            go_roundw
            case rel =>
              go_light
              refine ⟨k + 1, by omega, by go_num, ?_, ?_, (hown.alloc _).grown_below (hb.alloc hb.size _) hgrow (Nat.le_refl _) (by simp; omega)⟩
              · intro j hj
                rcases Nat.lt_succ_iff_lt_or_eq.1 hj with h | rfl
                · exact HE.out j h
                · rw [HK.out]; exact HF.out
              · rw [HS.out]; exact hown'
            case measure => simp [intOf]; omega
    · have hkl : k = N.length := by omega
      subst hkl
      rw [List.take_length] at hown
      have hN := inK_lt HE.out
      have cO := fun (u : Value) (w2 : World) (hu : SlAt eKy w2 w2.heap.size u N) => specOkT_any u N w2 hN hu
      cases ho : okT N with
      | true =>
        have HC := Lib.hid (show mdC N = 0 by unfold mdC; rw [ho]; rfl)
        rw [ho] at cO
        clear ho hN hA
        go_wp2_with fail
        refine (cO _ _ (hown.sl (by decide))).mono ?_
        rintro r w3 ⟨rfl, hb3⟩
        go_wp2
        go_ret2
        rw [HC.out, ifL0]
        exact ⟨_, rfl, hown.below hb3, grown_below hb hb3 hb.size⟩
      | false =>
        have HC := Lib.hid (show mdC N = 3 by unfold mdC; rw [ho]; rfl)
        rw [ho] at cO
        clear ho hN hA
        go_wp2_with fail
        refine (cO _ _ (hown.sl (by decide))).mono ?_
        rintro r w3 ⟨rfl, hb3⟩
        replace hb := grown_below hb hb3 hb.size
        go_wp2
        go_ret2
        rw [HC.out, ifL1 _ (by decide)]
        exact ⟨_, rfl, OwnL.made _ w.heap.size 50 hb.size, hb.alloc hb.size _⟩
end Go.Proofs.YtkcomhbmhgnhhaaDoor
