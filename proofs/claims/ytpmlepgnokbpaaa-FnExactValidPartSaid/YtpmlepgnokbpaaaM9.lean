import Derived.Test.YtpmlepgnokbpaaaRows
import Derived.Test.YtpmlepgnokbpaaaM6
import Derived.Maps.AppendAt
import Derived.Test.YtpmlepgnokbpaaaM1
/- spec.l01Dots: all dots, in order, in a slice of its own. -/
namespace Go.Proofs.Ytpmlepgnokbpaaa
set_option maxRecDepth 100000
open Go.RowKit
/-- A dot's cells. -/
def dotCells (l : List (Nat × Nat)) : List Value := l.flatMap fun d => [.int .i8 (d.1 : Int), .int .i8 (d.2 : Int)]
theorem dotCells_append (a b : List (Nat × Nat)) : dotCells (a ++ b) = dotCells a ++ dotCells b := by simp [dotCells]
/-- The call hands back a slice of its own, with these dots. -/
def GivesDots (l : List (Nat × Nat)) (w : World) (e : Ending) (w' : World) : Prop := ∃ v, e = .returned v ∧ w'.ownsRow w.heap.size 149 2 v l.length (dotCells l) ∧ Below w.heap.size w w'
theorem infoDot : (Try.prog.info? 149).map (fun i => (i.zero, i.size, i.bytes)) = some (some (.agg #[.int .i8 0, .int .i8 0]), 2, 2) := by kernel_rfl
theorem wrap8 {n : Nat} (h : n < 128) : IntKind.i8.wrap (n : Int) = n := by simp [IntKind.wrap, IntKind.bits, IntKind.signed]; omega
set_option maxHeartbeats 1000000 in
theorem dots_any (B : Nat) (f : Nat → Nat) (w : World) (hf : ∀ k, f k < 65536) (hB : Blk w B 27 f) :
    Calls Try.prog 113 #[.pointer (some ⟨B, 0, none⟩)] w (GivesDots (dots f) w) := by
  obtain ⟨i0, hi, hz0, hz1, hz2⟩ := info_parts infoDot
  have hown := World.ownsRow_made (base := w.heap.size) (e := 149) (size := 2) w #[] 0 (Nat.le_refl _) (by unfold maxLen; omega) rfl
  have h0 := (Below.refl w.heap.size w).alloc (Nat.le_refl _) (.cells #[] 149)
  go_enter Try.func113, Try.ntmps113
  go_wp2
  go_loopw [3, 4] (fun v i wr => ∃ y : Nat, y ≤ 12 ∧ i = .int .i64 y ∧ wr.ownsRow w.heap.size 149 2 v (dotsTo f (12 * y)).length (dotCells (dotsTo f (12 * y))) ∧ Below w.heap.size w wr) (fun _ i _ => 12 - (intOf i).toNat)
  case atStart => exact ⟨0, by omega, rfl, hown, h0⟩
  case round =>
    obtain ⟨y, hy, rfl, hown, hb⟩ := hrel
    by_cases hlt : y < 12
    · have hd : decide ((y : Int) < 12) = true := by simp; omega
      go_wp2
      obtain ⟨wo, rfl⟩ : ∃ wo : World, wo = wr := ⟨_, rfl⟩
      go_loopw [3, 5] (fun v i wr => ∃ x : Nat, x ≤ 12 ∧ i = .int .i64 x ∧ wr.ownsRow w.heap.size 149 2 v (dotsTo f (12 * y + x)).length (dotCells (dotsTo f (12 * y + x))) ∧ Below w.heap.size w wr) (fun _ i _ => 12 - (intOf i).toNat)
      case atStart => exact ⟨0, by omega, rfl, hown, hb⟩
      case round =>
        obtain ⟨x, hx, rfl, hown, hb⟩ := hrel
        have hB' := hB.below hb hB.lt
        have hlen := dotsTo_length f (12 * y + x)
        by_cases hxl : x < 12
        · have hst := dotsTo_step f (y := y) hxl
          have hh : hasF f x y = (f y).testBit x := by
            have hp : plB (x : Int) (y : Int) = true := plB_iff.2 (by omega)
            simp [hasF, hp]
          cases hb2 : (f y).testBit x with
          | false =>
            rw [hb2] at hh hst
            simp only [Bool.false_eq_true, if_false, List.append_nil] at hst
            have HS := Lib.hid hst
            clear hst hb2
            go_wp2_with (go_at_call 121; refine (has_any B f _ _ _ hf hB').mono ?_; rintro e w' ⟨rfl, rfl⟩)
            go_roundw
            case rel =>
              go_light
              have hn : wr.ownsRow w.heap.size 149 2 u3 (dotsTo f (12 * y + (x + 1))).length (dotCells (dotsTo f (12 * y + (x + 1)))) := by rw [HS.out]; exact hown
              exact ⟨x + 1, by omega, by go_num, hn, hb⟩
            case measure => simp [intOf]; omega
          | true =>
            rw [hb2] at hh hst
            simp only [if_true] at hst
            have HS := Lib.hid hst
            clear hst hb2
            have wx := wrap8 (n := x) (by omega)
            have wy := wrap8 (n := y) (by omega)
            go_wp2_with (first | (go_at_call 121; refine (has_any B f _ _ _ hf hB').mono ?_; rintro e w' ⟨rfl, rfl⟩) | (at_builtin; refine wpList_append_own _ rfl _ _ 145 rfl w.heap.size 149 i0 (.agg #[.int .i8 0, .int .i8 0]) 2 2 Try.underlying145 hi hz0 hz1 hz2 rfl (by decide) _ _ _ rfl (hown.alloc _) ⟨wr.heap.size, 0, none⟩ 1 1 [.int .i8 x, .int .i8 y] rfl rfl (cell_two_new _ _ _ _) (by simp [Value.oneCell']) (by unfold maxLen; omega) (by omega) (by have := hb.size; simp; omega) ?_; intro v' w1 hown' hgrow _))
            go_roundw
            case rel =>
              go_light
              have hn : w1.ownsRow w.heap.size 149 2 v' (dotsTo f (12 * y + (x + 1))).length (dotCells (dotsTo f (12 * y + (x + 1)))) := by
                rw [HS.out, dotCells_append, List.length_append]; exact hown'
              exact ⟨x + 1, by omega, by go_num, hn, (hb.alloc hb.size _).grown hgrow (by have := hb.size; simp; omega) (fun k hk => (hown.lt k hk).1)⟩
            case measure => simp [intOf]; omega
        · have h12 : x = 12 := by omega
          subst h12
          go_wp2
          go_roundw
          case rel =>
            go_light
            exact ⟨y + 1, by omega, by go_num, by rw [show 12 * (y + 1) = 12 * y + 12 by omega]; exact hown, hb⟩
          case measure => simp [intOf]; omega
    · have h12 : y = 12 := by omega
      subst h12
      go_wp2
      go_ret
      exact ⟨_, rfl, hown, hb⟩
end Go.Proofs.Ytpmlepgnokbpaaa

/- impl: Frame.meet: two frames, place by place. -/
namespace Go.Proofs.Ytpmlepgnokbpaaa
set_option maxRecDepth 100000
open Go.RowKit
set_option maxHeartbeats 400000 in
theorem meet_any (f g : Nat → Nat) (hf : ∀ k, f k < 65536) (hg : ∀ k, g k < 65536) (w : World) :
    Calls Try.prog 55 #[.agg (FC f), .agg (FC g)] w fun e w' => e = .returned (.agg (FC (meetF f g))) ∧ Below w.heap.size w w' := by
  obtain ⟨i0, hi0⟩ : ∃ i, Try.prog.info? 22 = some i := ⟨_, rfl⟩
  go_enter Try.func55, Try.ntmps55
  have b1 := Blk.new w 27 f
  have b2 := Blk.new (w.alloc (.cells (FC f) 27)) 27 g
  have b3 := Blk.new ((w.alloc (.cells (FC f) 27)).alloc (.cells (FC g) 27)) 27 zeroF
  have b1' := (b1.alloc (.cells (FC g) 27)).alloc (.cells (FC zeroF) 27)
  have b2' := b2.alloc (.cells (FC zeroF) 27)
  have hb := (((Below.refl w.heap.size w).alloc (Nat.le_refl _) (.cells (FC f) 27)).alloc (by simp) (.cells (FC g) 27)).alloc (by simp; omega) (.cells (FC zeroF) 27)
  rw [World.size_alloc] at b2 b2'
  rw [World.size_alloc, World.size_alloc] at b3
  clear b1 b2
  rw [FC_zero] at b1' b2' b3 hb
  go_wp2_with (refine wpList_load_fr rfl 27 22 _ rfl _ rfl b2' Try.underlying27 (by kernel_rfl) ?_)
  generalize (((w.alloc (.cells (FC f) 27)).alloc (.cells (FC g) 27)).alloc _) = w1 at *
  go_loopw [8] (fun i wr => ∃ k : Nat, k ≤ 12 ∧ i = .int .i64 k ∧ Blk wr w.heap.size 27 (fun y => if y < k then meetF f g y else f y) ∧ Blk wr (w.heap.size + 1 + 1) 27 zeroF ∧ Below w.heap.size w wr) (fun i _ => 12 - (intOf i).toNat)
  case atStart => exact ⟨0, by omega, rfl, b1'.ext (by simp), b3, hb⟩
  case round =>
    obtain ⟨k, hk, rfl, h1, h3, hb⟩ := hrel
    by_cases hlt : k < 12
    · have ix := fun w => run_index_fr (P := Try.prog) w g hlt Try.underlying27 (by kernel_rfl) hi0 (by kernel_rfl)
      have c1 := h1.cell hlt
      rw [if_neg (Nat.lt_irrefl k)] at c1
      have f1 := h1.free k
      have hop := u16_and_nat (f k) (g k) (hf k) (hg k)
      clear hi0
      go_wp2
      go_roundw
      case rel =>
        go_light
        refine ⟨k + 1, by omega, by go_num, (h1.set hlt _).ext ?_, h3.other _ (by show _ ≠ w.heap.size; omega), hb.setCell (Nat.le_refl _) _⟩
        intro j hj
        unfold upd
        by_cases e : j = k
        · subst e; simp [meetF]
        · rw [if_neg e]; simp only [show j < k + 1 ↔ j < k by omega]
      case measure => simp [intOf]; omega
    · go_wp2_with (first | (refine wpList_load_fr rfl 27 22 _ rfl _ rfl h1 Try.underlying27 (by kernel_rfl) ?_) | (refine wpList_store_fr rfl 27 _ _ rfl _ rfl h3 rfl (by kernel_rfl) ?_))
      refine bodyPost_ret_fr (p := 4) (ty := 27) (e := 22) rfl rfl (h3.setRow _) Try.underlying27 (by kernel_rfl) rfl ⟨?_, below_setRow hb (by omega) _⟩
      congr 2
      exact FC_ext (fun j hj => by rw [if_pos (by omega)])
end Go.Proofs.Ytpmlepgnokbpaaa

/- impl: Frame.inverted, ValidFrame. -/
namespace Go.Proofs.Ytpmlepgnokbpaaa
set_option maxRecDepth 100000
open Go.RowKit
set_option maxHeartbeats 400000 in
theorem inverted_any (f : Nat → Nat) (hf : ∀ k, f k < 65536) (w : World) :
    Calls Try.prog 93 #[.agg (FC f)] w fun e w' => e = .returned (.agg (FC (invF f))) ∧ Below w.heap.size w w' := by
  go_enter Try.func93, Try.ntmps93
  have b1 := Blk.new w 27 f
  have b2 := Blk.new (w.alloc (.cells (FC f) 27)) 27 zeroF
  have b1' := b1.alloc (.cells (FC zeroF) 27)
  have hb := ((Below.refl w.heap.size w).alloc (Nat.le_refl _) (.cells (FC f) 27)).alloc (by simp) (.cells (FC zeroF) 27)
  rw [World.size_alloc] at b2
  clear b1
  rw [FC_zero] at b1' b2 hb
  go_wp2
  generalize ((w.alloc (.cells (FC f) 27)).alloc _) = w1 at *
  go_loopw [4] (fun i wr => ∃ k : Nat, k ≤ 12 ∧ i = .int .i64 k ∧ Blk wr w.heap.size 27 (fun y => if y < k then invF f y else f y) ∧ Blk wr (w.heap.size + 1) 27 zeroF ∧ Below w.heap.size w wr) (fun i _ => 12 - (intOf i).toNat)
  case atStart => exact ⟨0, by omega, rfl, b1'.ext (by simp), b2, hb⟩
  case round =>
    obtain ⟨k, hk, rfl, h1, h2, hb⟩ := hrel
    by_cases hlt : k < 12
    · have c1 := h1.cell hlt
      rw [if_neg (Nat.lt_irrefl k)] at c1
      have f1 := h1.free k
      have hop := u16_xor_nat (f k) 4095 (hf k) (by omega)
      have hop : bits .xor .u16 (f k : Int) 4095 = ((f k ^^^ 4095 : Nat) : Int) := hop
      go_wp2
      go_roundw
      case rel =>
        go_light
        refine ⟨k + 1, by omega, by go_num, (h1.set hlt _).ext ?_, h2.other _ (by show _ ≠ w.heap.size; omega), hb.setCell (Nat.le_refl _) _⟩
        intro j hj
        unfold upd
        by_cases e : j = k
        · subst e; simp [invF]
        · rw [if_neg e]; simp only [show j < k + 1 ↔ j < k by omega]
      case measure => simp [intOf]; omega
    · go_wp2_with (first | (refine wpList_load_fr rfl 27 22 _ rfl _ rfl h1 Try.underlying27 (by kernel_rfl) ?_) | (refine wpList_store_fr rfl 27 _ _ rfl _ rfl h2 rfl (by kernel_rfl) ?_))
      refine bodyPost_ret_fr (p := 2) (ty := 27) (e := 22) rfl rfl (h2.setRow _) Try.underlying27 (by kernel_rfl) rfl ⟨?_, below_setRow hb (by omega) _⟩
      congr 2
      exact FC_ext (fun j hj => by rw [if_pos (by omega)])
theorem valid_eq (f : Nat → Nat) (hf : ∀ k, f k < 65536) : eqF (meetF f fullF) f = okF f := by
  have key : ∀ y, (meetF f fullF y = f y) ↔ f y ≤ 4095 := by
    intro y
    unfold meetF fullF
    rw [show 4095 = 2 ^ 12 - 1 by rfl, Nat.and_two_pow_sub_one_eq_mod]
    have := hf y
    omega
  rw [Bool.eq_iff_iff, eqF_iff, okF_iff]
  exact ⟨fun h y hy => (key y).1 (h y hy), fun h y hy => (key y).2 (h y hy)⟩
theorem build_fr (w : World) : (Instr.build 27 #[]).run Try.prog w = .ok (.agg (FC zeroF)) w := by kernel_rfl
set_option maxHeartbeats 400000 in
theorem valid_any (f : Nat → Nat) (hf : ∀ k, f k < 65536) (w : World) :
    Calls Try.prog 54 #[.agg (FC f)] w fun e w' => e = .returned (.bool (okF f)) ∧ Below w.heap.size w w' := by
  obtain ⟨i0, hi0⟩ : ∃ i, Try.prog.info? 22 = some i := ⟨_, rfl⟩
  have b1 := Blk.new w 27 f
  have cI := fun w => inverted_any zeroF zeroF_lt w
  rw [invF_zero] at cI
  have cM := fun w => meet_any f fullF hf fullF_lt w
  have he := fun w => run_eql_fr (P := Try.prog) w (meetF f fullF) f Try.underlying27 (by kernel_rfl) Try.underlying22 hi0 (by kernel_rfl)
  rw [valid_eq f hf] at he
  have hbl := build_fr
  clear hi0
  go_enter Try.func54, Try.ntmps54
  go_wp2
  refine wp_region_quiet_below (by kernel_rfl) (by kernel_rfl) ?_
  repeat (first | (refine wpQuiet_load_fr rfl 27 22 _ rfl _ rfl b1 Try.underlying27 (by kernel_rfl) ?_) | quiet_step (first | exact Calls.regrown_of (cI _) | exact Calls.regrown_of (cM _)))
  refine wpQuiet_nil ?_
  intro _ hw'
  obtain ⟨⟨dq, osq⟩, hw''⟩ := hw'
  subst hw''
  go_wp2
  go_ret
  exact ⟨rfl, ((Below.refl _ _).alloc (Nat.le_refl _) _).trans ((below_regrown _ dq osq).mono (by simp))⟩
end Go.Proofs.Ytpmlepgnokbpaaa
