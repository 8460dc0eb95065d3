/- spec.l01Dots at whatever address. -/
import Derived.Test.YtpmlepgnokbpaaaDots
import Derived.Test.YtpmlepgnokbpaaaSBook
import Derived.Test.YtpmlepgnokbpaaaHasAt
namespace Go.Proofs.Ytpmlepgnokbpaaa
set_option maxRecDepth 100000
open Go.RowKit
set_option maxHeartbeats 1000000 in
theorem dotsAt_any (B off : Nat) (f : Nat → Nat) (w : World) (hf : ∀ k, f k < 65536) (hB : w.rangeAt B off (FC f).toList) (lB : B < w.heap.size) :
    Calls Try.prog 113 #[.pointer (some ⟨B, off, none⟩)] w (GivesDots (dots f) w) := by
  obtain ⟨i0, hi, hz0, hz1, hz2⟩ := info_parts infoDot
  have hown := World.ownsRow_made (base := w.heap.size) (e := 149) (size := 2) w #[] 0 (Nat.le_refl _) (by unfold maxLen; omega) rfl
  have h0 := (Below.refl w.heap.size w).alloc (Nat.le_refl _) (.cells #[] 149)
  go_enter Try.func113, Try.ntmps113
  go_wp2
  go_loopw [3, 4] (fun v i wr => ∃ y : Nat, y ≤ 12 ∧ i = .int .i64 y ∧ wr.ownsRow w.heap.size 149 2 v (dotsTo f (12 * y)).length (dotCells (dotsTo f (12 * y))) ∧ Below w.heap.size w wr) (fun _ i _ => 12 - (intOf i).toNat)
  case atStart => exact ⟨0, by omega, rfl, hown, h0⟩
  case round =>
    obtain ⟨y, hy, rfl, hown, hb⟩ := hrel
    by_cases hlt : y < 12
    · have hd : decide ((y : Int) < 12) = true := by simp; omega
      go_wp2
      obtain ⟨wo, rfl⟩ : ∃ wo : World, wo = wr := ⟨_, rfl⟩
      go_loopw [3, 5] (fun v i wr => ∃ x : Nat, x ≤ 12 ∧ i = .int .i64 x ∧ wr.ownsRow w.heap.size 149 2 v (dotsTo f (12 * y + x)).length (dotCells (dotsTo f (12 * y + x))) ∧ Below w.heap.size w wr) (fun _ i _ => 12 - (intOf i).toNat)
      case atStart => exact ⟨0, by omega, rfl, hown, hb⟩
      case round =>
        obtain ⟨x, hx, rfl, hown, hb⟩ := hrel
        have hB' := range_below hB hb lB
        have hlen := dotsTo_length f (12 * y + x)
        by_cases hxl : x < 12
        · have hst := dotsTo_step f (y := y) hxl
          have hA := fun w' h' => hasAtS_any B off f x y hxl hlt w' hf h'
          cases hb2 : (f y).testBit x with
          | false =>
            rw [hb2] at hst hA
            simp only [Bool.false_eq_true, if_false, List.append_nil] at hst
            have HS := Lib.hid hst
            clear hst hb2
            go_wp2_with (go_at_call 121; refine (hA _ hB').mono ?_; rintro e w' ⟨rfl, rfl⟩)
            go_roundw
            case rel =>
              go_light
              have hn : wr.ownsRow w.heap.size 149 2 u3 (dotsTo f (12 * y + (x + 1))).length (dotCells (dotsTo f (12 * y + (x + 1)))) := by rw [HS.out]; exact hown
              exact ⟨x + 1, by omega, by go_num, hn, hb⟩
            case measure => simp [intOf]; omega
          | true =>
            rw [hb2] at hst hA
            simp only [if_true] at hst
            have HS := Lib.hid hst
            clear hst hb2
            have wx := wrap8 (n := x) (by omega)
            have wy := wrap8 (n := y) (by omega)
            go_wp2_with (first | (go_at_call 121; refine (hA _ hB').mono ?_; rintro e w' ⟨rfl, rfl⟩) | (at_builtin; refine wpList_append_own _ rfl _ _ 145 rfl w.heap.size 149 i0 (.agg #[.int .i8 0, .int .i8 0]) 2 2 Try.underlying145 hi hz0 hz1 hz2 rfl (by decide) _ _ _ rfl (hown.alloc _) ⟨wr.heap.size, 0, none⟩ 1 1 [.int .i8 x, .int .i8 y] rfl rfl (cell_two_new _ _ _ _) (by simp [Value.oneCell']) (by unfold maxLen; omega) (by omega) (by have := hb.size; simp; omega) ?_; intro v' w1 hown' hgrow _))
            go_roundw
            case rel =>
              go_light
              have hn : w1.ownsRow w.heap.size 149 2 v' (dotsTo f (12 * y + (x + 1))).length (dotCells (dotsTo f (12 * y + (x + 1)))) := by
                rw [HS.out, dotCells_append, List.length_append]; exact hown'
              exact ⟨x + 1, by omega, by go_num, hn, (hb.alloc hb.size _).grown hgrow (by have := hb.size; simp; omega) (fun k hk => (hown.lt k hk).1)⟩
            case measure => simp [intOf]; omega
        · have h12 : x = 12 := by omega
          subst h12
          go_wp2
          go_roundw
          case rel =>
            go_light
            exact ⟨y + 1, by omega, by go_num, by rw [show 12 * (y + 1) = 12 * y + 12 by omega]; exact hown, hb⟩
          case measure => simp [intOf]; omega
    · have h12 : y = 12 := by omega
      subst h12
      go_wp2
      go_ret
      exact ⟨_, rfl, hown, hb⟩
end Go.Proofs.Ytpmlepgnokbpaaa
