/- FrameFrom: spec and impl. -/
import Derived.Test.YthkpefdjhdemeaaLDot
import Derived.Test.YthkpefdjhdemeaaPut
import Derived.Test.YthkpefdjhdemeaaS1
import Derived.Test.YthkpefdjhdemeaaIPlace
namespace Go.Proofs.Ythkpefdjhdemeaa
set_option maxRecDepth 100000
open Go.RowKit
set_option linter.unusedVariables false
set_option linter.unusedSimpArgs false
def okD (L : List (Int × Int)) : Bool := L.all fun d => plB d.1 d.2
theorem okD_iff {L : List (Int × Int)} : okD L = true ↔ ∀ i, i < L.length → plB (sAt L i).1 (sAt L i).2 = true := by
  unfold okD
  rw [List.all_eq_true]
  refine ⟨fun h i hi => h _ (List.mem_of_getElem? (sAt_get hi)), fun h x hx => ?_⟩
  obtain ⟨i, hi⟩ := List.getElem?_of_mem hx
  have hlt := (List.getElem?_eq_some_iff.1 hi).1
  have := h i hlt
  rw [sAt_get hlt] at hi
  rwa [Option.some.inj hi] at this
def frC (L : List (Int × Int)) : Int := if okD L then 0 else 2
theorem frC_bad {L : List (Int × Int)} {i : Nat} (hi : i < L.length) (h : plB (sAt L i).1 (sAt L i).2 = false) : frC L = 2 := by
  unfold frC
  cases ho : okD L with
  | false => rfl
  | true => have := okD_iff.1 ho i hi; rw [h] at this; cases this
theorem frC_ok {L : List (Int × Int)} (h : ∀ i, i < L.length → plB (sAt L i).1 (sAt L i).2 = true) : frC L = 0 := by
  unfold frC; rw [okD_iff.2 h]; rfl
def fromF (L : List (Int × Int)) : Nat → Nat := ifC (frC L) (putAll L zeroF)
def lt8d (s : Int × Int) : Prop := (-128 ≤ s.1 ∧ s.1 ≤ 127) ∧ -128 ≤ s.2 ∧ s.2 ≤ 127
def ltD (L : List (Int × Int)) : Prop := ∀ s ∈ L, lt8d s
theorem dAt_lt {L : List (Int × Int)} (h : ltD L) (i : Nat) : lt8d (sAt L i) := by
  by_cases hi : i < L.length
  · exact h _ (List.mem_of_getElem? (sAt_get hi))
  · unfold sAt
    rw [List.getD_eq_getElem?_getD, List.getElem?_eq_none (by omega)]
    simp [zeroS, lt8d]
theorem placeB2 (x y : Int) (w : World) : Calls Try.prog 17 #[.int .i64 x, .int .i64 y] w fun e w' => e = .returned (.bool (plB x y)) ∧ Below w.heap.size w w' :=
  (place_any x y w).mono fun e w' ⟨h1, h2⟩ => ⟨h1, h2 ▸ Below.refl _ _⟩
set_option maxHeartbeats 1000000 in
theorem specFrom_any (v : Value) (L : List (Int × Int)) (w : World) (hL : ltD L) (h : SlAt eSh w w.heap.size v L) :
    Calls Try.prog 7 #[v] w fun e w' => e = .returned (.tuple #[.agg (FC (fromF L)), .int .i64 (frC L)]) ∧ Below w.heap.size w w' := by
  obtain ⟨A, c, rfl, h1, h2, hA⟩ := h
  unfold maxLen at h2
  have b1 := Blk.new w 26 zeroF
  have h0 := (Below.refl w.heap.size w).alloc (Nat.le_refl _) (.cells (FC zeroF) 26)
  have hz1 : (w.alloc (.cells (FC zeroF) 26)).heap.size = w.heap.size + 1 := World.size_alloc _ _
  rw [FC_zero] at b1 h0 hz1
  go_enter Try.func7, Try.ntmps7
  go_wp2_with fail
  generalize (w.alloc _) = w1 at *
  have b2 := Blk.new w1 26 zeroF
  rw [hz1] at b2
  replace b1 := b1.alloc (.cells (FC zeroF) 26)
  replace h0 := h0.alloc h0.size (.cells (FC zeroF) 26)
  go_wp2_with fail
  rw [FC_zero] at b1 b2 h0
  generalize (w1.alloc _) = w2 at *
  clear hz1
  go_loopw [5] (fun i wr => ∃ k : Nat, k ≤ L.length ∧ i = .int .i64 k ∧ (∀ j, j < k → plB (sAt L j).1 (sAt L j).2 = true) ∧ Blk wr w.heap.size 26 zeroF ∧ Blk wr (w.heap.size + 1) 26 (putAll (L.take k) zeroF) ∧ Below w.heap.size w wr) (fun i _ => L.length - (intOf i).toNat)
  case atStart => exact ⟨0, by omega, rfl, by omega, b1, b2, h0⟩
  case round =>
    clear b1 b2 h0
    obtain ⟨k, hk, rfl, he, b1, b2, hb⟩ := hrel
    have HE := Lib.hid he
    clear he
    by_cases hlt : k < L.length
    · obtain ⟨bb, oo, rfl, hbb, r1⟩ := hA (by omega)
      have g1 := range_part r1 (sAt_get hlt)
      rw [eSh_n] at g1
      have hl8 := dAt_lt hL k
      have HS := Lib.hid (show L.take (k + 1) = L.take k ++ [sAt L k] by rw [List.take_add_one, sAt_get hlt]; rfl)
      clear hA r1
      have cc0 := fun wr (hb : Below w.heap.size w wr) => sh_cell0 (range_below g1 hb hbb)
      have cc1 := fun wr (hb : Below w.heap.size w wr) => sh_cell1 (range_below g1 hb hbb)
      clear g1
      obtain ⟨x, y, hxy⟩ : ∃ x y, sAt L k = (x, y) := ⟨_, _, rfl⟩
      rw [hxy] at hl8
      rw [hxy] at cc0 cc1
      have hx := hl8.1
      have hy := hl8.2
      dsimp only at hx hy cc0 cc1
      have HX := Lib.hid hxy
      clear hxy hl8
      have k1 : IntKind.i64.wrap x = x := IntWalk.i64_in _ (by omega)
      have k2 : IntKind.i64.wrap y = y := IntWalk.i64_in _ (by omega)
      have c0' := fun dd os => cell_regrown (cc0 _ hb) dd os
      have c1' := fun dd os => cell_regrown (cc1 _ hb) dd os
      have cP := fun W => placeB2 x y W
      cases hp : plB x y with
      | false =>
        rw [hp] at cP
        have HB := Lib.hid (frC_bad (L := L) hlt (by rw [HX.out]; exact hp))
        clear hp cc0 cc1
        go_wp2_with fail
        refine wp_region_calm (by kernel_rfl) (by kernel_rfl) ?_
        repeat (quiet_step (exact Calls.regrown_of (cP _)))
        refine wpQuiet_nil ?_
        intro w3 hb3
        replace b1 := b1.below hb3 b1.lt
        replace hb := grown_below hb hb3 hb.size
        clear c0' c1' b2 hb3
        go_wp2_with (refine wpList_store_fr (f := zeroF) rfl 26 _ _ rfl _ rfl b1 rfl (by kernel_rfl) ?_)
        refine bodyPost_ret_fr2 (p := 2) (u := 3) (ty := 26) (e := 24) rfl rfl (b1.setRow _) Try.underlying26 (by kernel_rfl) rfl ⟨?_, below_setRow hb (Nat.le_refl _) _⟩
        unfold fromF
        rw [HB.out]
        rfl
      | true =>
        rw [hp] at cP
        have HP := Lib.hid (show plB (sAt L k).1 (sAt L k).2 = true by rw [HX.out]; exact hp)
        clear hp
        go_wp2_with fail
        refine wp_region_calm (by kernel_rfl) (by kernel_rfl) ?_
        repeat (quiet_step (exact Calls.regrown_of (cP _)))
        refine wpQuiet_nil ?_
        intro w3 hb3
        replace b1 := b1.below hb3 b1.lt
        replace b2 := b2.below hb3 b2.lt
        replace hb := grown_below hb hb3 hb.size
        clear c0' c1' hb3
        have c0' := fun dd os => cell_regrown (cc0 _ hb) dd os
        have c1' := fun dd os => cell_regrown (cc1 _ hb) dd os
        go_wp2_with fail
        refine wp_region_tail 12 (by kernel_rfl) (by kernel_rfl) ?_
        simp only [List.take_succ_cons, List.take_zero, List.drop_succ_cons, List.drop_zero]
        repeat (quiet_step (fail))
        refine wpQuiet_nil ?_
        intro w4 hb4
        replace b1 := b1.below hb4 b1.lt
        replace b2 := b2.below hb4 b2.lt
        replace hb := grown_below hb hb4 hb.size
        clear c0' c1' k1 k2 cc0 cc1 hb4
        go_wp2_with (go_at_call 18; refine (put_any _ _ _ _ _ (putAll_lt _ zeroF_lt) b2).mono ?_; rintro e' w5 ⟨rfl, hw, b2'⟩)
        go_roundw
        case rel =>
          go_light
          refine ⟨k + 1, by omega, by go_num, ?_, hw.blk b1 (by omega), ?_, hw.below hb (by omega) hb.size⟩
          · intro j hj
            rcases Nat.lt_succ_iff_lt_or_eq.1 hj with h | rfl
            · exact HE.out j h
            · exact HP.out
          · rw [HS.out, putAll_snoc, HX.out]
            exact b2'
        case measure => simp [intOf]; omega
    · have hkl : k = L.length := by omega
      subst hkl
      clear hA
      rw [List.take_length] at b2
      go_wp2_with (first | (refine wpList_load_fr rfl 26 24 _ rfl _ rfl b2 Try.underlying26 (by kernel_rfl) ?_) | (refine wpList_store_fr rfl 26 _ _ rfl _ rfl b1 rfl (by kernel_rfl) ?_))
      refine bodyPost_ret_fr2 (p := 2) (u := 3) (ty := 26) (e := 24) rfl rfl (b1.setRow _) Try.underlying26 (by kernel_rfl) rfl ⟨?_, below_setRow hb (Nat.le_refl _) _⟩
      unfold fromF
      rw [frC_ok HE.out]
      rfl
set_option maxHeartbeats 1000000 in
theorem implFrom_any (v : Value) (L : List (Int × Int)) (w : World) (hL : ltD L) (h : SlAt eSh w w.heap.size v L) :
    Calls Try.prog 9 #[v] w fun e w' => e = .returned (.tuple #[.agg (FC (fromF L)), .int .i64 (frC L)]) ∧ Below w.heap.size w w' := by
  obtain ⟨A, c, rfl, h1, h2, hA⟩ := h
  unfold maxLen at h2
  have b1 := (Blk.new w 26 zeroF).alloc (.cells (FC zeroF) 26)
  have b2 := Blk.new (w.alloc (.cells (FC zeroF) 26)) 26 zeroF
  have h0 := ((Below.refl w.heap.size w).alloc (Nat.le_refl _) (.cells (FC zeroF) 26)).alloc (by simp) (.cells (FC zeroF) 26)
  rw [World.size_alloc] at b2
  rw [FC_zero] at b1 b2 h0
  go_enter Try.func9, Try.ntmps9
  go_wp2_with fail
  generalize ((w.alloc _).alloc _) = w1 at *
  go_loopw [9] (fun i wr => ∃ k : Nat, k ≤ L.length ∧ i = .int .i64 k ∧ (∀ j, j < k → plB (sAt L j).1 (sAt L j).2 = true) ∧ Blk wr w.heap.size 26 zeroF ∧ Blk wr (w.heap.size + 1) 26 (putAll (L.take k) zeroF) ∧ Below w.heap.size w wr) (fun i _ => L.length - (intOf i).toNat)
  case atStart => exact ⟨0, by omega, rfl, by omega, b1, b2, h0⟩
  case round =>
    clear b1 b2 h0
    obtain ⟨k, hk, rfl, he, b1, b2, hb⟩ := hrel
    have HE := Lib.hid he
    clear he
    by_cases hlt : k < L.length
    · obtain ⟨bb, oo, rfl, hbb, r1⟩ := hA (by omega)
      have g1 := range_below (range_part r1 (sAt_get hlt)) hb hbb
      rw [eSh_n] at g1
      have hl8 := dAt_lt hL k
      have HS := Lib.hid (show L.take (k + 1) = L.take k ++ [sAt L k] by rw [List.take_add_one, sAt_get hlt]; rfl)
      clear hA r1
      obtain ⟨x, y, hxy⟩ : ∃ x y, sAt L k = (x, y) := ⟨_, _, rfl⟩
      rw [hxy] at hl8 g1
      have hx := hl8.1
      have hy := hl8.2
      dsimp only at hx hy
      have HX := Lib.hid hxy
      clear hxy hl8
      have k1 : IntKind.i64.wrap x = x := IntWalk.i64_in _ (by omega)
      have k2 : IntKind.i64.wrap y = y := IntWalk.i64_in _ (by omega)
      have cP := fun W => isPlace_any x y W
      cases hp : plB x y with
      | false =>
        rw [hp] at cP
        have HB := Lib.hid (frC_bad (L := L) hlt (by rw [HX.out]; exact hp))
        replace b1 := b1.alloc (.cells (SC (x, y)) 42)
        replace hb := hb.alloc hb.size (.cells (SC (x, y)) 42)
        clear hp b2
        go_wp2_with (first | (refine wpList_load_el (E := eSh) rfl 42 _ rfl _ _ rfl (x, y) #[.int .i8 x, .int .i8 y] rfl g1 Try.underlying42 rfl (by kernel_rfl) ?_) | (go_at_call 22; refine (cP _).mono ?_; rintro e' w5 ⟨rfl, rfl⟩) | (refine wpList_store_fr (f := zeroF) rfl 26 _ _ rfl _ rfl b1 rfl (by kernel_rfl) ?_))
        refine bodyPost_ret_fr2 (p := 2) (u := 3) (ty := 26) (e := 24) rfl rfl (b1.setRow _) Try.underlying26 (by kernel_rfl) rfl ⟨?_, below_setRow hb (Nat.le_refl _) _⟩
        unfold fromF
        rw [HB.out]
        rfl
      | true =>
        rw [hp] at cP
        have HP := Lib.hid (show plB (sAt L k).1 (sAt L k).2 = true by rw [HX.out]; exact hp)
        have hp' := plB_iff.1 hp
        clear hp
        obtain ⟨x, rfl⟩ := Int.eq_ofNat_of_zero_le hp'.1
        obtain ⟨y, rfl⟩ := Int.eq_ofNat_of_zero_le hp'.2.2.1
        have hx12 : x < 12 := by omega
        have hy12 : y < 12 := by omega
        clear hp'
        replace b1 := b1.alloc (.cells (SC ((x : Int), (y : Int))) 42)
        replace b2 := b2.alloc (.cells (SC ((x : Int), (y : Int))) 42)
        replace hb := hb.alloc hb.size (.cells (SC ((x : Int), (y : Int))) 42)
        go_wp2_with (first | (refine wpList_load_el (E := eSh) rfl 42 _ rfl _ _ rfl ((x : Int), (y : Int)) #[.int .i8 x, .int .i8 y] rfl g1 Try.underlying42 rfl (by kernel_rfl) ?_) | (go_at_call 22; refine (cP _).mono ?_; rintro e' w5 ⟨rfl, rfl⟩) | (refine wpList_load_fr rfl 26 24 _ rfl _ rfl b2 Try.underlying26 (by kernel_rfl) ?_) | (go_at_call 23; refine (dwith_any _ x y hx12 hy12 (putAll_lt _ zeroF_lt) _).mono ?_; rintro e w6 ⟨rfl, hb6⟩; replace b1 := b1.below hb6 b1.lt; replace b2 := b2.below hb6 b2.lt; replace hb := grown_below hb hb6 hb.size; clear hb6) | (refine wpList_store_fr rfl 26 _ _ rfl _ rfl b2 rfl (by kernel_rfl) ?_))
        go_roundw
        case rel =>
          go_light
          refine ⟨k + 1, by omega, by go_num, ?_, b1.setRowOther _ (by omega), ?_, below_setRow hb (by omega) _⟩
          · intro j hj
            rcases Nat.lt_succ_iff_lt_or_eq.1 hj with h | rfl
            · exact HE.out j h
            · exact HP.out
          · rw [HS.out, putAll_snoc, HX.out]
            exact b2.setRow _
        case measure => simp [intOf]; omega
    · have hkl : k = L.length := by omega
      subst hkl
      clear hA
      rw [List.take_length] at b2
      go_wp2_with (first | (refine wpList_load_fr rfl 26 24 _ rfl _ rfl b2 Try.underlying26 (by kernel_rfl) ?_) | (refine wpList_store_fr rfl 26 _ _ rfl _ rfl b1 rfl (by kernel_rfl) ?_))
      refine bodyPost_ret_fr2 (p := 2) (u := 3) (ty := 26) (e := 24) rfl rfl (b1.setRow _) Try.underlying26 (by kernel_rfl) rfl ⟨?_, below_setRow hb (Nat.le_refl _) _⟩
      unfold fromF
      rw [frC_ok HE.out]
      rfl
end Go.Proofs.Ythkpefdjhdemeaa
