/- spec.l01Dots: all dots, in order, in a slice of its own. -/
import Derived.Test.YtjbjbdkmomkclabRows
import Derived.Test.YtjbjbdkmomkclabS1
import Derived.Maps.AppendAt
namespace Go.Proofs.Ytjbjbdkmomkclab
set_option maxRecDepth 100000
open Go.RowKit
/-- A dot's cells. -/
def dotCells (l : List (Nat × Nat)) : List Value := l.flatMap fun d => [.int .i8 (d.1 : Int), .int .i8 (d.2 : Int)]
theorem dotCells_append (a b : List (Nat × Nat)) : dotCells (a ++ b) = dotCells a ++ dotCells b := by simp [dotCells]
/-- The call hands back a slice of its own, with these dots. -/
def GivesDots (l : List (Nat × Nat)) (w : World) (e : Ending) (w' : World) : Prop := ∃ v, e = .returned v ∧ w'.ownsRow w.heap.size 157 2 v l.length (dotCells l) ∧ Below w.heap.size w w'
theorem infoDot : (Try.prog.info? 157).map (fun i => (i.zero, i.size, i.bytes)) = some (some (.agg #[.int .i8 0, .int .i8 0]), 2, 2) := by kernel_rfl
theorem wrap8 {n : Nat} (h : n < 128) : IntKind.i8.wrap (n : Int) = n := by simp [IntKind.wrap, IntKind.bits, IntKind.signed]; omega
set_option maxHeartbeats 1000000 in
theorem dots_any (B : Nat) (f : Nat → Nat) (w : World) (hf : ∀ k, f k < 65536) (hB : Blk w B 65 f) :
    Calls Try.prog 112 #[.pointer (some ⟨B, 0, none⟩)] w (GivesDots (dots f) w) := by
  obtain ⟨i0, hi, hz0, hz1, hz2⟩ := info_parts infoDot
  have hown := World.ownsRow_made (base := w.heap.size) (e := 157) (size := 2) w #[] 0 (Nat.le_refl _) (by unfold maxLen; omega) rfl
  have h0 := (Below.refl w.heap.size w).alloc (Nat.le_refl _) (.cells #[] 157)
  go_enter Try.func112, Try.ntmps112
  go_wp2
  go_loopw [3, 4] (fun v i wr => ∃ y : Nat, y ≤ 12 ∧ i = .int .i64 y ∧ wr.ownsRow w.heap.size 157 2 v (dotsTo f (12 * y)).length (dotCells (dotsTo f (12 * y))) ∧ Below w.heap.size w wr) (fun _ i _ => 12 - (intOf i).toNat)
  case atStart => exact ⟨0, by omega, rfl, hown, h0⟩
  case round =>
    obtain ⟨y, hy, rfl, hown, hb⟩ := hrel
    by_cases hlt : y < 12
    · have hd : decide ((y : Int) < 12) = true := by simp; omega
      go_wp2
      obtain ⟨wo, rfl⟩ : ∃ wo : World, wo = wr := ⟨_, rfl⟩
      go_loopw [3, 5] (fun v i wr => ∃ x : Nat, x ≤ 12 ∧ i = .int .i64 x ∧ wr.ownsRow w.heap.size 157 2 v (dotsTo f (12 * y + x)).length (dotCells (dotsTo f (12 * y + x))) ∧ Below w.heap.size w wr) (fun _ i _ => 12 - (intOf i).toNat)
      case atStart => exact ⟨0, by omega, rfl, hown, hb⟩
      case round =>
        obtain ⟨x, hx, rfl, hown, hb⟩ := hrel
        have hB' := hB.below hb hB.lt
        have hlen := dotsTo_length f (12 * y + x)
        by_cases hxl : x < 12
        · have hst := dotsTo_step f (y := y) hxl
          have hh : hasF f x y = (f y).testBit x := by
            have hp : plB (x : Int) (y : Int) = true := plB_iff.2 (by omega)
            simp [hasF, hp]
          cases hb2 : (f y).testBit x with
          | false =>
            rw [hb2] at hh hst
            simp only [Bool.false_eq_true, if_false, List.append_nil] at hst
            have HS := Lib.hid hst
            clear hst hb2
            go_wp2_with (go_at_call 131; refine (has_any B f _ _ _ hf hB').mono ?_; rintro e w' ⟨rfl, rfl⟩)
            go_roundw
            case rel =>
              go_light
              have hn : wr.ownsRow w.heap.size 157 2 u3 (dotsTo f (12 * y + (x + 1))).length (dotCells (dotsTo f (12 * y + (x + 1)))) := by rw [HS.out]; exact hown
              exact ⟨x + 1, by omega, by go_num, hn, hb⟩
            case measure => simp [intOf]; omega
          | true =>
            rw [hb2] at hh hst
            simp only [if_true] at hst
            have HS := Lib.hid hst
            clear hst hb2
            have wx := wrap8 (n := x) (by omega)
            have wy := wrap8 (n := y) (by omega)
            go_wp2_with (first | (go_at_call 131; refine (has_any B f _ _ _ hf hB').mono ?_; rintro e w' ⟨rfl, rfl⟩) | (at_builtin; refine wpList_append_own _ rfl _ _ 153 rfl w.heap.size 157 i0 (.agg #[.int .i8 0, .int .i8 0]) 2 2 Try.underlying153 hi hz0 hz1 hz2 rfl (by decide) _ _ _ rfl (hown.alloc _) ⟨wr.heap.size, 0, none⟩ 1 1 [.int .i8 x, .int .i8 y] rfl rfl (cell_two_new _ _ _ _) (by simp [Value.oneCell']) (by unfold maxLen; omega) (by omega) (by have := hb.size; simp; omega) ?_; intro v' w1 hown' hgrow _))
            go_roundw
            case rel =>
              go_light
              have hn : w1.ownsRow w.heap.size 157 2 v' (dotsTo f (12 * y + (x + 1))).length (dotCells (dotsTo f (12 * y + (x + 1)))) := by
                rw [HS.out, dotCells_append, List.length_append]; exact hown'
              exact ⟨x + 1, by omega, by go_num, hn, (hb.alloc hb.size _).grown hgrow (by have := hb.size; simp; omega) (fun k hk => (hown.lt k hk).1)⟩
            case measure => simp [intOf]; omega
        · have h12 : x = 12 := by omega
          subst h12
          go_wp2
          go_roundw
          case rel =>
            go_light
            exact ⟨y + 1, by omega, by go_num, by rw [show 12 * (y + 1) = 12 * y + 12 by omega]; exact hown, hb⟩
          case measure => simp [intOf]; omega
    · have h12 : y = 12 := by omega
      subst h12
      go_wp2
      go_ret
      exact ⟨_, rfl, hown, hb⟩
end Go.Proofs.Ytjbjbdkmomkclab
