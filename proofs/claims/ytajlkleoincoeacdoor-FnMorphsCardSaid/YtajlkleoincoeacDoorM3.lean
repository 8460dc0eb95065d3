import Derived.Test.YtajlkleoincoeacDoorRows
import Derived.Test.YtajlkleoincoeacDoorM2
import Derived.Test.YtajlkleoincoeacDoorM1
import Derived.RegionTactic
import Derived.Maps.AppendAt
/- impl: Frame.unlike: two frames, place by place. -/
namespace Go.Proofs.YtajlkleoincoeacDoor
set_option maxRecDepth 100000
open Go.RowKit
set_option maxHeartbeats 400000 in
theorem unlike_any (f g : Nat → Nat) (hf : ∀ k, f k < 65536) (hg : ∀ k, g k < 65536) (w : World) :
    Calls Tryd.prog 76 #[.agg (FC f), .agg (FC g)] w fun e w' => e = .returned (.agg (FC (unlikeF f g))) ∧ Below w.heap.size w w' := by
  obtain ⟨i0, hi0⟩ : ∃ i, Tryd.prog.info? 24 = some i := ⟨_, rfl⟩
  go_enter Tryd.func76, Tryd.ntmps76
  have b1 := Blk.new w 26 f
  have b2 := Blk.new (w.alloc (.cells (FC f) 26)) 26 g
  have b3 := Blk.new ((w.alloc (.cells (FC f) 26)).alloc (.cells (FC g) 26)) 26 zeroF
  have b1' := (b1.alloc (.cells (FC g) 26)).alloc (.cells (FC zeroF) 26)
  have b2' := b2.alloc (.cells (FC zeroF) 26)
  have hb := (((Below.refl w.heap.size w).alloc (Nat.le_refl _) (.cells (FC f) 26)).alloc (by simp) (.cells (FC g) 26)).alloc (by simp; omega) (.cells (FC zeroF) 26)
  rw [World.size_alloc] at b2 b2'
  rw [World.size_alloc, World.size_alloc] at b3
  clear b1 b2
  rw [FC_zero] at b1' b2' b3 hb
  go_wp2_with (refine wpList_load_fr rfl 26 24 _ rfl _ rfl b2' Tryd.underlying26 (by kernel_rfl) ?_)
  generalize (((w.alloc (.cells (FC f) 26)).alloc (.cells (FC g) 26)).alloc _) = w1 at *
  go_loopw [8] (fun i wr => ∃ k : Nat, k ≤ 12 ∧ i = .int .i64 k ∧ Blk wr w.heap.size 26 (fun y => if y < k then unlikeF f g y else f y) ∧ Blk wr (w.heap.size + 1 + 1) 26 zeroF ∧ Below w.heap.size w wr) (fun i _ => 12 - (intOf i).toNat)
  case atStart => exact ⟨0, by omega, rfl, b1'.ext (by simp), b3, hb⟩
  case round =>
    obtain ⟨k, hk, rfl, h1, h3, hb⟩ := hrel
    by_cases hlt : k < 12
    · have ix := fun w => run_index_fr (P := Tryd.prog) w g hlt Tryd.underlying26 (by kernel_rfl) hi0 (by kernel_rfl)
      have c1 := h1.cell hlt
      rw [if_neg (Nat.lt_irrefl k)] at c1
      have f1 := h1.free k
      have hop := u16_xor_nat (f k) (g k) (hf k) (hg k)
      clear hi0
      go_wp2
      go_roundw
      case rel =>
        go_light
        refine ⟨k + 1, by omega, by go_num, (h1.set hlt _).ext ?_, h3.other _ (by show _ ≠ w.heap.size; omega), hb.setCell (Nat.le_refl _) _⟩
        intro j hj
        unfold upd
        by_cases e : j = k
        · subst e; simp [unlikeF]
        · rw [if_neg e]; simp only [show j < k + 1 ↔ j < k by omega]
      case measure => simp [intOf]; omega
    · go_wp2_with (first | (refine wpList_load_fr rfl 26 24 _ rfl _ rfl h1 Tryd.underlying26 (by kernel_rfl) ?_) | (refine wpList_store_fr rfl 26 _ _ rfl _ rfl h3 rfl (by kernel_rfl) ?_))
      refine bodyPost_ret_fr (p := 4) (ty := 26) (e := 24) rfl rfl (h3.setRow _) Tryd.underlying26 (by kernel_rfl) rfl ⟨?_, below_setRow hb (by omega) _⟩
      congr 2
      exact FC_ext (fun j hj => by rw [if_pos (by omega)])
end Go.Proofs.YtajlkleoincoeacDoor

/- math/bits.OnesCount16. -/
namespace Go.Proofs.YtajlkleoincoeacDoor
set_option maxRecDepth 100000
open Go.RowKit
set_option maxHeartbeats 400000 in
theorem ones16_any (n : Nat) (h : n < 65536) (w : World) :
    Calls Tryd.prog 117 #[.int .u16 n] w fun e w' => e = .returned (.int .i64 (pop n)) ∧ ∃ k, w' = w.drewN k := by
  have hA := pop8 ⟨n / 256, by omega⟩
  have hC := pop8 ⟨n % 256, by omega⟩
  simp only at hA hC
  have ha : bits .and .u16 (n : Int) 255 = ((n % 256 : Nat) : Int) := by
    rw [show (255 : Int) = ((255 : Nat) : Int) from rfl, u16_and_nat n 255 h (by omega), show 255 = 2 ^ 8 - 1 by rfl, Nat.and_two_pow_sub_one_eq_mod]
  have hw : IntKind.u8.wrap ((pop (n / 256) : Int) + (pop (n % 256) : Int)) = ((pop n : Nat) : Int) := by
    rw [pop_split h, IntKind.wrap_u8]; omega
  have hn : pop n ≤ 16 := popTo_le n 16
  have hw64 : IntKind.i64.wrap ((pop n : Nat) : Int) = ((pop n : Nat) : Int) := by rw [IntKind.wrap_i64]; omega
  go_enter Tryd.func117, Tryd.ntmps117
  go_wp2
  refine wp_region_quiet_lit (by kernel_rfl) (by kernel_rfl) ?_
  repeat (first | (refine wpQuiet_index_tab rfl _ _ _ rfl rfl rfl (n := n / 256) (by omega) Tryd.underlying9 pop 256 (by omega) (by kernel_rfl) (by omega) ?_) | (refine wpQuiet_index_tab rfl _ _ _ rfl rfl rfl (n := n % 256) (by omega) Tryd.underlying9 pop 256 (by omega) (by kernel_rfl) (by omega) ?_) | quiet_step (fail))
  refine wpQuiet_nil ?_
  intro _ hw'
  obtain ⟨nq, hw''⟩ := hw'
  subst hw''
  go_wp2
  go_ret
  exact ⟨rfl, nq, rfl⟩
end Go.Proofs.YtajlkleoincoeacDoor

/- spec: l00In, l01Ok, ValidFrame, l01Place, l01Asked, l01Has, l01Put. -/
namespace Go.Proofs.YtajlkleoincoeacDoor
set_option maxRecDepth 100000
open Go.RowKit
theorem in_any (n a b : Int) (w : World) :
    Calls Tryd.prog 73 #[.int .i64 n, .int .i64 a, .int .i64 b] w fun e w' => e = .returned (.bool (inB n a b)) ∧ w = w' := by
  by_cases h1 : a ≤ n
  · by_cases h2 : n ≤ b
    · go_enter Tryd.func73, Tryd.ntmps73
      go_wp2
      go_ret
      exact ⟨ret_bool (by rw [inB_iff.2 ⟨h1, h2⟩]), rfl⟩
    · go_enter Tryd.func73, Tryd.ntmps73
      go_wp2
      go_ret
      exact ⟨ret_bool (by rw [inB_false.2 (by omega)]), rfl⟩
  · go_enter Tryd.func73, Tryd.ntmps73
    go_wp2
    go_ret
    exact ⟨ret_bool (by rw [inB_false.2 (by omega)]), rfl⟩
theorem place_any (x y : Int) (w : World) :
    Calls Tryd.prog 139 #[.int .i64 x, .int .i64 y] w fun e w' => e = .returned (.bool (plB x y)) ∧ w = w' := by
  cases hx : inB x 0 11 with
  | true =>
    have HX := Lib.hid hx
    go_enter Tryd.func139, Tryd.ntmps139
    go_wp2_with (go_at_call 73; refine (in_any _ _ _ _).mono ?_; rintro e w' ⟨rfl, rfl⟩)
    go_ret
    refine ⟨ret_bool ?_, rfl⟩
    have h1 := inB_iff.1 HX.out
    show inB y 0 11 = _
    simp [inB, plB, h1.1, h1.2]
  | false =>
    have HX := Lib.hid hx
    go_enter Tryd.func139, Tryd.ntmps139
    go_wp2_with (go_at_call 73; refine (in_any _ _ _ _).mono ?_; rintro e w' ⟨rfl, rfl⟩)
    go_ret
    refine ⟨ret_bool ?_, rfl⟩
    have h1 := inB_false.1 HX.out
    exact (plB_false.2 (by omega)).symm
set_option maxHeartbeats 400000 in
theorem ok_any (B : Nat) (f : Nat → Nat) (w : World) (hB : Blk w B 26 f) :
    Calls Tryd.prog 72 #[.pointer (some ⟨B, 0, none⟩)] w fun e w' => e = .returned (.bool (okF f)) ∧ w = w' := by
  go_enter Tryd.func72, Tryd.ntmps72
  go_wp2
  go_loop [3] (fun i => ∃ k : Nat, k ≤ 12 ∧ i = .int .i64 k ∧ (∀ j, j < k → f j ≤ 4095)) (fun i => 12 - (intOf i).toNat)
  case atStart => exact ⟨0, by omega, rfl, by omega⟩
  case round =>
    obtain ⟨k, hk, rfl, he⟩ := hrel
    have HE := Lib.hid he
    clear he
    by_cases hlt : k < 12
    · have c1 := hB.cell hlt
      by_cases hf : f k ≤ 4095
      · go_wp2
        go_round
        case rel =>
          go_light
          refine ⟨k + 1, by omega, by go_num, ?_⟩
          intro j hj
          rcases Nat.lt_succ_iff_lt_or_eq.1 hj with h | rfl
          · exact HE.out j h
          · exact hf
        case measure => simp [intOf]; omega
      · go_wp2
        go_ret
        exact ⟨ret_bool (okF_false.2 ⟨k, hlt, by omega⟩).symm, rfl⟩
    · go_wp2
      go_ret
      have h12 : k = 12 := by omega
      subst h12
      exact ⟨ret_bool (okF_iff.2 HE.out).symm, rfl⟩
set_option maxHeartbeats 400000 in
theorem has_any (B : Nat) (f : Nat → Nat) (x y : Int) (w : World) (hf : ∀ k, f k < 65536) (hB : Blk w B 26 f) :
    Calls Tryd.prog 116 #[.pointer (some ⟨B, 0, none⟩), .int .i64 x, .int .i64 y] w fun e w' => e = .returned (.bool (hasF f x y)) ∧ w = w' := by
  cases hp : plB x y with
  | false =>
    go_enter Tryd.func116, Tryd.ntmps116
    go_wp2_with (go_at_call 139; refine (place_any _ _ _).mono ?_; rintro e w' ⟨rfl, rfl⟩)
    go_ret
    exact ⟨ret_bool (by simp [hasF, hp]), rfl⟩
  | true =>
    have h1 := plB_iff.1 hp
    obtain ⟨x, rfl⟩ := Int.eq_ofNat_of_zero_le h1.1
    obtain ⟨y, rfl⟩ := Int.eq_ofNat_of_zero_le h1.2.2.1
    have hx : x < 12 := by omega
    have hy : y < 12 := by omega
    have hfy := hf y
    clear h1 hf
    have c1 := hB.cell hy
    go_enter Tryd.func116, Tryd.ntmps116
    go_wp2_with (go_at_call 139; refine (place_any _ _ _).mono ?_; rintro e w' ⟨rfl, rfl⟩)
    go_ret
    refine ⟨ret_bool ?_, rfl⟩
    go_light
    rw [tmod_bit]
    simp [hasF, hp]
set_option maxHeartbeats 400000 in
theorem put_any (B : Nat) (f : Nat → Nat) (x y : Int) (w : World) (hf : ∀ k, f k < 65536) (hB : Blk w B 26 f) :
    Calls Tryd.prog 109 #[.pointer (some ⟨B, 0, none⟩), .int .i64 x, .int .i64 y] w fun e w' => e = .returned (.tuple #[]) ∧ Wrote B w w' ∧ Blk w' B 26 (putF f x y) := by
  cases hp : plB x y with
  | false =>
    go_enter Tryd.func109, Tryd.ntmps109
    go_wp2_with (go_at_call 139; refine (place_any _ _ _).mono ?_; rintro e w' ⟨rfl, rfl⟩)
    go_end0
    exact ⟨rfl, Wrote.refl _ _, by simp only [putF, hp]; exact hB⟩
  | true =>
    have h1 := plB_iff.1 hp
    obtain ⟨x, rfl⟩ := Int.eq_ofNat_of_zero_le h1.1
    obtain ⟨y, rfl⟩ := Int.eq_ofNat_of_zero_le h1.2.2.1
    have hx : x < 12 := by omega
    have hy : y < 12 := by omega
    have hfy := hf y
    clear h1 hf
    have c1 := hB.cell hy
    have c2 := hB.free y
    go_enter Tryd.func109, Tryd.ntmps109
    go_wp2_with (go_at_call 139; refine (place_any _ _ _).mono ?_; rintro e w' ⟨rfl, rfl⟩)
    go_region
    all_goals go_end0
    rw [u16_or_pow hfy (by omega)]
    refine ⟨rfl, ((Wrote.refl B w).setCell (p := ⟨B, y, none⟩) rfl _).drew, ?_⟩
    simp only [putF, hp, if_true, Int.toNat_natCast]
    exact hB.set hy _
end Go.Proofs.YtajlkleoincoeacDoor

/- spec.l01Dots: all dots, in order, in a slice of its own. -/
namespace Go.Proofs.YtajlkleoincoeacDoor
set_option maxRecDepth 100000
open Go.RowKit
/-- A dot's cells. -/
def dotCells (l : List (Nat × Nat)) : List Value := l.flatMap fun d => [.int .i8 (d.1 : Int), .int .i8 (d.2 : Int)]
theorem dotCells_append (a b : List (Nat × Nat)) : dotCells (a ++ b) = dotCells a ++ dotCells b := by simp [dotCells]
/-- The call hands back a slice of its own, with these dots. -/
def GivesDots (l : List (Nat × Nat)) (w : World) (e : Ending) (w' : World) : Prop := ∃ v, e = .returned v ∧ w'.ownsRow w.heap.size 183 2 v l.length (dotCells l) ∧ Below w.heap.size w w'
theorem infoDot : (Tryd.prog.info? 183).map (fun i => (i.zero, i.size, i.bytes)) = some (some (.agg #[.int .i8 0, .int .i8 0]), 2, 2) := by kernel_rfl
theorem wrap8 {n : Nat} (h : n < 128) : IntKind.i8.wrap (n : Int) = n := by simp [IntKind.wrap, IntKind.bits, IntKind.signed]; omega
set_option maxHeartbeats 1000000 in
theorem dots_any (B : Nat) (f : Nat → Nat) (w : World) (hf : ∀ k, f k < 65536) (hB : Blk w B 26 f) :
    Calls Tryd.prog 142 #[.pointer (some ⟨B, 0, none⟩)] w (GivesDots (dots f) w) := by
  obtain ⟨i0, hi, hz0, hz1, hz2⟩ := info_parts infoDot
  have hown := World.ownsRow_made (base := w.heap.size) (e := 183) (size := 2) w #[] 0 (Nat.le_refl _) (by unfold maxLen; omega) rfl
  have h0 := (Below.refl w.heap.size w).alloc (Nat.le_refl _) (.cells #[] 183)
  go_enter Tryd.func142, Tryd.ntmps142
  go_wp2
  go_loopw [3, 4] (fun v i wr => ∃ y : Nat, y ≤ 12 ∧ i = .int .i64 y ∧ wr.ownsRow w.heap.size 183 2 v (dotsTo f (12 * y)).length (dotCells (dotsTo f (12 * y))) ∧ Below w.heap.size w wr) (fun _ i _ => 12 - (intOf i).toNat)
  case atStart => exact ⟨0, by omega, rfl, hown, h0⟩
  case round =>
    obtain ⟨y, hy, rfl, hown, hb⟩ := hrel
    by_cases hlt : y < 12
    · have hd : decide ((y : Int) < 12) = true := by simp; omega
      go_wp2
      obtain ⟨wo, rfl⟩ : ∃ wo : World, wo = wr := ⟨_, rfl⟩
      go_loopw [3, 5] (fun v i wr => ∃ x : Nat, x ≤ 12 ∧ i = .int .i64 x ∧ wr.ownsRow w.heap.size 183 2 v (dotsTo f (12 * y + x)).length (dotCells (dotsTo f (12 * y + x))) ∧ Below w.heap.size w wr) (fun _ i _ => 12 - (intOf i).toNat)
      case atStart => exact ⟨0, by omega, rfl, hown, hb⟩
      case round =>
        obtain ⟨x, hx, rfl, hown, hb⟩ := hrel
        have hB' := hB.below hb hB.lt
        have hlen := dotsTo_length f (12 * y + x)
        by_cases hxl : x < 12
        · have hst := dotsTo_step f (y := y) hxl
          have hh : hasF f x y = (f y).testBit x := by
            have hp : plB (x : Int) (y : Int) = true := plB_iff.2 (by omega)
            simp [hasF, hp]
          cases hb2 : (f y).testBit x with
          | false =>
            rw [hb2] at hh hst
            simp only [Bool.false_eq_true, if_false, List.append_nil] at hst
            have HS := Lib.hid hst
            clear hst hb2
            go_wp2_with (go_at_call 116; refine (has_any B f _ _ _ hf hB').mono ?_; rintro e w' ⟨rfl, rfl⟩)
            go_roundw
            case rel =>
              go_light
              have hn : wr.ownsRow w.heap.size 183 2 u3 (dotsTo f (12 * y + (x + 1))).length (dotCells (dotsTo f (12 * y + (x + 1)))) := by rw [HS.out]; exact hown
              exact ⟨x + 1, by omega, by go_num, hn, hb⟩
            case measure => simp [intOf]; omega
          | true =>
            rw [hb2] at hh hst
            simp only [if_true] at hst
            have HS := Lib.hid hst
            clear hst hb2
            have wx := wrap8 (n := x) (by omega)
            have wy := wrap8 (n := y) (by omega)
            go_wp2_with (first | (go_at_call 116; refine (has_any B f _ _ _ hf hB').mono ?_; rintro e w' ⟨rfl, rfl⟩) | (at_builtin; refine wpList_append_own _ rfl _ _ 180 rfl w.heap.size 183 i0 (.agg #[.int .i8 0, .int .i8 0]) 2 2 Tryd.underlying180 hi hz0 hz1 hz2 rfl (by decide) _ _ _ rfl (hown.alloc _) ⟨wr.heap.size, 0, none⟩ 1 1 [.int .i8 x, .int .i8 y] rfl rfl (cell_two_new _ _ _ _) (by simp [Value.oneCell']) (by unfold maxLen; omega) (by omega) (by have := hb.size; simp; omega) ?_; intro v' w1 hown' hgrow _))
            go_roundw
            case rel =>
              go_light
              have hn : w1.ownsRow w.heap.size 183 2 v' (dotsTo f (12 * y + (x + 1))).length (dotCells (dotsTo f (12 * y + (x + 1)))) := by
                rw [HS.out, dotCells_append, List.length_append]; exact hown'
              exact ⟨x + 1, by omega, by go_num, hn, (hb.alloc hb.size _).grown hgrow (by have := hb.size; simp; omega) (fun k hk => (hown.lt k hk).1)⟩
            case measure => simp [intOf]; omega
        · have h12 : x = 12 := by omega
          subst h12
          go_wp2
          go_roundw
          case rel =>
            go_light
            exact ⟨y + 1, by omega, by go_num, by rw [show 12 * (y + 1) = 12 * y + 12 by omega]; exact hown, hb⟩
          case measure => simp [intOf]; omega
    · have h12 : y = 12 := by omega
      subst h12
      go_wp2
      go_ret
      exact ⟨_, rfl, hown, hb⟩
end Go.Proofs.YtajlkleoincoeacDoor
