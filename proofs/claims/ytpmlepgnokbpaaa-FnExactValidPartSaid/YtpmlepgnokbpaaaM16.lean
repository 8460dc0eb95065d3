import Derived.Test.YtpmlepgnokbpaaaM6
import Derived.Test.YtpmlepgnokbpaaaM10
import Derived.Test.YtpmlepgnokbpaaaM9
import Derived.Test.YtpmlepgnokbpaaaM15
/- spec.l01Has at whatever address. -/
namespace Go.Proofs.Ytpmlepgnokbpaaa
set_option maxRecDepth 100000
open Go.RowKit
set_option linter.unusedVariables false
set_option maxHeartbeats 400000 in
theorem hasAtS_any (B off : Nat) (f : Nat → Nat) (x y : Nat) (hx : x < 12) (hy : y < 12) (w : World) (hf : ∀ k, f k < 65536) (r : w.rangeAt B off (FC f).toList) :
    Calls Try.prog 121 #[.pointer (some ⟨B, off, none⟩), .int .i64 x, .int .i64 y] w fun e w' => e = .returned (.bool ((f y).testBit x)) ∧ w = w' := by
  have hp : plB (x : Int) (y : Int) = true := plB_iff.2 (by omega)
  have c1 := fr_cell r hy
  have hfy := hf y
  clear hf r
  go_enter Try.func121, Try.ntmps121
  go_wp2_with (go_at_call 122; refine (place_any _ _ _).mono ?_; rintro e w' ⟨rfl, rfl⟩)
  go_ret
  refine ⟨ret_bool ?_, rfl⟩
  go_light
  rw [tmod_bit]
end Go.Proofs.Ytpmlepgnokbpaaa

/- spec.l01Dots at whatever address. -/
namespace Go.Proofs.Ytpmlepgnokbpaaa
set_option maxRecDepth 100000
open Go.RowKit
set_option maxHeartbeats 1000000 in
theorem dotsAt_any (B off : Nat) (f : Nat → Nat) (w : World) (hf : ∀ k, f k < 65536) (hB : w.rangeAt B off (FC f).toList) (lB : B < w.heap.size) :
    Calls Try.prog 113 #[.pointer (some ⟨B, off, none⟩)] w (GivesDots (dots f) w) := by
  obtain ⟨i0, hi, hz0, hz1, hz2⟩ := info_parts infoDot
  have hown := World.ownsRow_made (base := w.heap.size) (e := 149) (size := 2) w #[] 0 (Nat.le_refl _) (by unfold maxLen; omega) rfl
  have h0 := (Below.refl w.heap.size w).alloc (Nat.le_refl _) (.cells #[] 149)
  go_enter Try.func113, Try.ntmps113
  go_wp2
  go_loopw [3, 4] (fun v i wr => ∃ y : Nat, y ≤ 12 ∧ i = .int .i64 y ∧ wr.ownsRow w.heap.size 149 2 v (dotsTo f (12 * y)).length (dotCells (dotsTo f (12 * y))) ∧ Below w.heap.size w wr) (fun _ i _ => 12 - (intOf i).toNat)
  case atStart => exact ⟨0, by omega, rfl, hown, h0⟩
  case round =>
    obtain ⟨y, hy, rfl, hown, hb⟩ := hrel
    by_cases hlt : y < 12
    · have hd : decide ((y : Int) < 12) = true := by simp; omega
      go_wp2
      obtain ⟨wo, rfl⟩ : ∃ wo : World, wo = wr := ⟨_, rfl⟩
      go_loopw [3, 5] (fun v i wr => ∃ x : Nat, x ≤ 12 ∧ i = .int .i64 x ∧ wr.ownsRow w.heap.size 149 2 v (dotsTo f (12 * y + x)).length (dotCells (dotsTo f (12 * y + x))) ∧ Below w.heap.size w wr) (fun _ i _ => 12 - (intOf i).toNat)
      case atStart => exact ⟨0, by omega, rfl, hown, hb⟩
      case round =>
        obtain ⟨x, hx, rfl, hown, hb⟩ := hrel
        have hB' := range_below hB hb lB
        have hlen := dotsTo_length f (12 * y + x)
        by_cases hxl : x < 12
        · have hst := dotsTo_step f (y := y) hxl
          have hA := fun w' h' => hasAtS_any B off f x y hxl hlt w' hf h'
          cases hb2 : (f y).testBit x with
          | false =>
            rw [hb2] at hst hA
            simp only [Bool.false_eq_true, if_false, List.append_nil] at hst
            have HS := Lib.hid hst
            clear hst hb2
            go_wp2_with (go_at_call 121; refine (hA _ hB').mono ?_; rintro e w' ⟨rfl, rfl⟩)
            go_roundw
            case rel =>
              go_light
              have hn : wr.ownsRow w.heap.size 149 2 u3 (dotsTo f (12 * y + (x + 1))).length (dotCells (dotsTo f (12 * y + (x + 1)))) := by rw [HS.out]; exact hown
              exact ⟨x + 1, by omega, by go_num, hn, hb⟩
            case measure => simp [intOf]; omega
          | true =>
            rw [hb2] at hst hA
            simp only [if_true] at hst
            have HS := Lib.hid hst
            clear hst hb2
            have wx := wrap8 (n := x) (by omega)
            have wy := wrap8 (n := y) (by omega)
            go_wp2_with (first | (go_at_call 121; refine (hA _ hB').mono ?_; rintro e w' ⟨rfl, rfl⟩) | (at_builtin; refine wpList_append_own _ rfl _ _ 145 rfl w.heap.size 149 i0 (.agg #[.int .i8 0, .int .i8 0]) 2 2 Try.underlying145 hi hz0 hz1 hz2 rfl (by decide) _ _ _ rfl (hown.alloc _) ⟨wr.heap.size, 0, none⟩ 1 1 [.int .i8 x, .int .i8 y] rfl rfl (cell_two_new _ _ _ _) (by simp [Value.oneCell']) (by unfold maxLen; omega) (by omega) (by have := hb.size; simp; omega) ?_; intro v' w1 hown' hgrow _))
            go_roundw
            case rel =>
              go_light
              have hn : w1.ownsRow w.heap.size 149 2 v' (dotsTo f (12 * y + (x + 1))).length (dotCells (dotsTo f (12 * y + (x + 1)))) := by
                rw [HS.out, dotCells_append, List.length_append]; exact hown'
              exact ⟨x + 1, by omega, by go_num, hn, (hb.alloc hb.size _).grown hgrow (by have := hb.size; simp; omega) (fun k hk => (hown.lt k hk).1)⟩
            case measure => simp [intOf]; omega
        · have h12 : x = 12 := by omega
          subst h12
          go_wp2
          go_roundw
          case rel =>
            go_light
            exact ⟨y + 1, by omega, by go_num, by rw [show 12 * (y + 1) = 12 * y + 12 by omega]; exact hown, hb⟩
          case measure => simp [intOf]; omega
    · have h12 : y = 12 := by omega
      subst h12
      go_wp2
      go_ret
      exact ⟨_, rfl, hown, hb⟩
end Go.Proofs.Ytpmlepgnokbpaaa

/- spec.l01Moved at whatever address, as far as 200. -/
namespace Go.Proofs.Ytpmlepgnokbpaaa
set_option maxRecDepth 100000
open Go.RowKit
set_option maxHeartbeats 1000000 in
theorem specMovedAt_any (B off : Nat) (f : Nat → Nat) (e s : Int) (e1 : -200 ≤ e) (e2 : e ≤ 200) (s1 : -200 ≤ s) (s2 : s ≤ 200) (w : World) (hf : ∀ k, f k < 65536) (hB : w.rangeAt B off (FC f).toList) (lB : B < w.heap.size) :
    Calls Try.prog 100 #[.pointer (some ⟨B, off, none⟩), .int .i64 e, .int .i64 s] w fun e' w' => e' = .returned (.agg (FC (movedS f e s))) ∧ Below w.heap.size w w' := by
  have b1 := (Blk.new w 27 zeroF).alloc (.cells (FC zeroF) 27)
  have b2 := Blk.new (w.alloc (.cells (FC zeroF) 27)) 27 zeroF
  rw [World.size_alloc] at b2
  have h0 := ((Below.refl w.heap.size w).alloc (Nat.le_refl _) (.cells (FC zeroF) 27)).alloc (by simp) (.cells (FC zeroF) 27)
  rw [FC_zero] at b1 b2 h0
  go_enter Try.func100, Try.ntmps100
  go_wp2_with fail
  have hB1 := range_below hB h0 lB
  have lB1 := Nat.lt_of_lt_of_le lB h0.size
  generalize ((w.alloc _).alloc _) = w1 at *
  refine (dotsAt_any B off f _ hf hB1 lB1).mono ?_
  rintro e' w2 ⟨v, rfl, hown, hb1⟩
  have hb1lt := b2.lt
  replace b1 := b1.below hb1 b1.lt
  replace b2 := b2.below hb1 b2.lt
  replace h0 := grown_below h0 hb1 h0.size
  obtain ⟨p, cap, rfl, _⟩ := dots_shape hown
  clear hb1
  go_wp2_with fail
  go_loopw [9] (fun i wr => ∃ k : Nat, k ≤ (dots f).length ∧ i = .int .i64 k ∧ Blk wr w.heap.size 27 zeroF ∧ Blk wr (w.heap.size + 1) 27 (putAll (((dots f).map fun d => ((d.1 : Int) + e, (d.2 : Int) + s)).take k) zeroF) ∧ wr.ownsRow w1.heap.size 149 2 (.slice p (dots f).length cap) (dots f).length (dotCells (dots f)) ∧ Below w.heap.size w wr) (fun i _ => (dots f).length - (intOf i).toNat)
  case atStart => exact ⟨0, by omega, rfl, b1, b2, hown, h0⟩
  case round =>
    obtain ⟨k, hk, rfl, b1, b2, hown, hb⟩ := hrel
    have hlen : (dots f).length ≤ 144 := dotsTo_length f 144
    by_cases hlt' : k < (dots f).length
    · have hd : (dots f)[k]? = some (dots f)[k] := List.getElem?_eq_getElem hlt'
      generalize hdd : (dots f)[k] = d at hd
      have hm := mem_dots.1 (List.mem_of_getElem? hd)
      have hstep : (((dots f).map fun d => ((d.1 : Int) + e, (d.2 : Int) + s)).take (k + 1)) = (((dots f).map fun d => ((d.1 : Int) + e, (d.2 : Int) + s)).take k) ++ [((d.1 : Int) + e, (d.2 : Int) + s)] := by
        rw [List.take_add_one, List.getElem?_map, hd]; rfl
      have HS := Lib.hid hstep
      obtain ⟨p', cap', hpc, hsh⟩ := dots_shape hown
      cases hpc
      obtain ⟨g, rfl, c1, c2⟩ := hsh k d hd
      have hg := (hown.lt g rfl).1
      have c1' := fun dd os => cell_regrown c1 dd os
      have c2' := fun dd os => cell_regrown c2 dd os
      have hm1 := hm.1
      have hm2 := hm.2.1
      clear hd hdd hsh hstep hm
      have k1 : IntKind.i64.wrap ((d.1 : Int) + e) = (d.1 : Int) + e := IntWalk.i64_in _ (by omega)
      have k2 : IntKind.i64.wrap ((d.2 : Int) + s) = (d.2 : Int) + s := IntWalk.i64_in _ (by omega)
      go_wp2_with fail
      refine wp_region_tail 16 (by kernel_rfl) (by kernel_rfl) ?_
      simp only [List.take_succ_cons, List.take_zero, List.drop_succ_cons, List.drop_zero]
      repeat (quiet_step (fail))
      refine wpQuiet_nil ?_
      intro w3 hb3
      replace b1 := b1.below hb3 b1.lt
      replace b2 := b2.below hb3 b2.lt
      replace hown := hown.kept (below_grownBy hb3 none) (.inr (by simp [Value.ownBlock]))
      replace hb := grown_below hb hb3 hb.size
      clear c1 c2 c1' c2' k1 k2
      go_wp2_with (go_at_call 114; refine (put_any _ _ _ _ _ (putAll_lt _ zeroF_lt) b2).mono ?_; rintro e' w4 ⟨rfl, hw, b2'⟩)
      go_roundw
      case rel =>
        go_light
        refine ⟨k + 1, by omega, by go_num, hw.blk b1 (by omega), ?_, hown.kept hw.grown (.inr (by simp [Value.ownBlock]; omega)), hw.below hb (by omega) hb.size⟩
        rw [HS.out, putAll_snoc]
        exact b2'
      case measure => simp [intOf]; omega
    · have hk' : k = (dots f).length := by omega
      subst hk'
      go_wp2_with (first | (refine wpList_load_fr rfl 27 22 _ rfl _ rfl b2 Try.underlying27 (by kernel_rfl) ?_) | (refine wpList_store_fr rfl 27 _ _ rfl _ rfl b1 rfl (by kernel_rfl) ?_))
      refine bodyPost_ret_fr (p := 6) (ty := 27) (e := 22) rfl rfl (b1.setRow _) Try.underlying27 (by kernel_rfl) rfl ⟨?_, below_setRow hb (Nat.le_refl _) _⟩
      rw [List.take_of_length_le (by simp)]
      rfl
end Go.Proofs.Ytpmlepgnokbpaaa
