/- HasDot, of spec and of impl. -/
import Derived.Test.YtemeamamdddfnaaRows
import Derived.Test.YtemeamamdddfnaaS1
import Derived.Test.YtemeamamdddfnaaIPlace
namespace Go.Proofs.Ytemeamamdddfnaa
open Go.RowKit
set_option maxHeartbeats 400000 in
theorem specHasDot_any (f : Nat → Nat) (x y : Int) (hf : ∀ k, f k < 65536) (w : World) :
    Calls Try.prog 16 #[.agg (FC f), .int .i64 x, .int .i64 y] w fun e w' => e = .returned (.tuple #[.bool (hasV f x y), .int .i64 (askF f x y)]) ∧ Below w.heap.size w w' := by
  have b1 := Blk.new w 27 f
  have h0 := (Below.refl w.heap.size w).alloc (Nat.le_refl _) (.cells (FC f) 27)
  rcases askF_cases f x y with ⟨ho, ha⟩ | ⟨ho, hp, ha⟩ | ⟨ho, hp, ha⟩
  · have hv : hasV f x y = false := by simp [hasV, ho]
    go_enter Try.func16, Try.ntmps16
    go_wp2_with (first | (go_at_call 36; refine (asked_any _ f _ _ _ b1).mono ?_; rintro e w' ⟨rfl, rfl⟩) | (go_at_call 37; refine (has_any _ f _ _ _ hf b1).mono ?_; rintro e w' ⟨rfl, rfl⟩))
    go_ret2
    exact ⟨by rw [hv, ha]; rfl, h0⟩
  · have hv : hasV f x y = false := by simp [hasV, hasF, hp]
    go_enter Try.func16, Try.ntmps16
    go_wp2_with (first | (go_at_call 36; refine (asked_any _ f _ _ _ b1).mono ?_; rintro e w' ⟨rfl, rfl⟩) | (go_at_call 37; refine (has_any _ f _ _ _ hf b1).mono ?_; rintro e w' ⟨rfl, rfl⟩))
    go_ret2
    exact ⟨by rw [hv, ha]; rfl, h0⟩
  · have hv : hasV f x y = hasF f x y := by simp [hasV, ho]
    go_enter Try.func16, Try.ntmps16
    go_wp2_with (first | (go_at_call 36; refine (asked_any _ f _ _ _ b1).mono ?_; rintro e w' ⟨rfl, rfl⟩) | (go_at_call 37; refine (has_any _ f _ _ _ hf b1).mono ?_; rintro e w' ⟨rfl, rfl⟩))
    go_ret2
    exact ⟨by rw [hv, ha]; rfl, h0⟩
set_option maxHeartbeats 400000 in
theorem implHasDot_any (f : Nat → Nat) (x y : Int) (hf : ∀ k, f k < 65536) (w : World) :
    Calls Try.prog 17 #[.agg (FC f), .int .i64 x, .int .i64 y] w fun e w' => e = .returned (.tuple #[.bool (hasV f x y), .int .i64 (askF f x y)]) ∧ Below w.heap.size w w' := by
  have b1 := Blk.new w 27 f
  have h0 := (Below.refl w.heap.size w).alloc (Nat.le_refl _) (.cells (FC f) 27)
  rcases askF_cases f x y with ⟨ho, ha⟩ | ⟨ho, hp, ha⟩ | ⟨ho, hp, ha⟩
  · have hv : hasV f x y = false := by simp [hasV, ho]
    have hd : placeV f x y = .agg #[.int .i8 0, .int .i8 0] := by simp [placeV, ha, dotV]
    go_enter Try.func17, Try.ntmps17
    go_wp2_with (first | (refine wpList_load_fr rfl 27 24 _ rfl _ rfl (by first | exact b1 | exact b1.alloc _) Try.underlying27 (by kernel_rfl) ?_) | (go_at_call 38; refine (placeIn_any f _ _ hf _).mono ?_; rintro e w1 ⟨rfl, hb1⟩; replace b1 := b1.below hb1 b1.lt; replace h0 := grown_below h0 hb1 h0.size; clear hb1))
    go_ret2
    exact ⟨by rw [hv, ha]; rfl, h0.alloc h0.size _⟩
  · have hv : hasV f x y = false := by simp [hasV, hasF, hp]
    have hd : placeV f x y = .agg #[.int .i8 0, .int .i8 0] := by simp [placeV, ha, dotV]
    go_enter Try.func17, Try.ntmps17
    go_wp2_with (first | (refine wpList_load_fr rfl 27 24 _ rfl _ rfl (by first | exact b1 | exact b1.alloc _) Try.underlying27 (by kernel_rfl) ?_) | (go_at_call 38; refine (placeIn_any f _ _ hf _).mono ?_; rintro e w1 ⟨rfl, hb1⟩; replace b1 := b1.below hb1 b1.lt; replace h0 := grown_below h0 hb1 h0.size; clear hb1))
    go_ret2
    exact ⟨by rw [hv, ha]; rfl, h0.alloc h0.size _⟩
  · have h1 := plB_iff.1 hp
    obtain ⟨x, rfl⟩ := Int.eq_ofNat_of_zero_le h1.1
    obtain ⟨y, rfl⟩ := Int.eq_ofNat_of_zero_le h1.2.2.1
    have hx : x < 12 := by omega
    have hy : y < 12 := by omega
    have hv : hasV f x y = (f y).testBit x := by simp [hasV, hasF, ho, hp]
    have hd : placeV f x y = .agg #[.int .i8 x, .int .i8 y] := by simp [placeV, ha, dotV]
    clear h1
    go_enter Try.func17, Try.ntmps17
    go_wp2_with (first | (refine wpList_load_fr rfl 27 24 _ rfl _ rfl (by first | exact b1 | exact b1.alloc _) Try.underlying27 (by kernel_rfl) ?_) | (go_at_call 38; refine (placeIn_any f _ _ hf _).mono ?_; rintro e w1 ⟨rfl, hb1⟩; replace b1 := b1.below hb1 b1.lt; replace h0 := grown_below h0 hb1 h0.size; clear hb1) | (go_at_call 39; refine (dhas_any f x y hx hy hf _).mono ?_; rintro e w1 ⟨rfl, hb1⟩))
    go_ret2
    exact ⟨by rw [hv, ha]; rfl, grown_below (h0.alloc h0.size _) hb1 (h0.alloc h0.size _).size⟩
end Go.Proofs.Ytemeamamdddfnaa
