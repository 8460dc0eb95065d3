/- impl: isPlace, placeIn, Frame.has, Frame.with. -/
import Derived.Test.YtemeamamdddfnaaRows
import Derived.Test.YtemeamamdddfnaaFr
import Derived.Test.YtemeamamdddfnaaIValid
namespace Go.Proofs.Ytemeamamdddfnaa
open Go.RowKit
theorem isPlace_any (x y : Int) (w : World) :
    Calls Try.prog 49 #[.int .i64 x, .int .i64 y] w fun e w' => e = .returned (.bool (plB x y)) ∧ w = w' := by
  by_cases h1 : 0 ≤ x
  · by_cases h2 : x < 12
    · by_cases h3 : 0 ≤ y
      · by_cases h4 : y < 12
        · go_enter Try.func49, Try.ntmps49
          go_wp2
          go_ret
          exact ⟨ret_bool (by rw [plB_iff.2 (by omega)]), rfl⟩
        · go_enter Try.func49, Try.ntmps49
          go_wp2
          go_ret
          exact ⟨ret_bool (by rw [plB_false.2 (by omega)]), rfl⟩
      · go_enter Try.func49, Try.ntmps49
        go_wp2
        go_ret
        exact ⟨ret_bool (by rw [plB_false.2 (by omega)]), rfl⟩
    · go_enter Try.func49, Try.ntmps49
      go_wp2
      go_ret
      exact ⟨ret_bool (by rw [plB_false.2 (by omega)]), rfl⟩
  · go_enter Try.func49, Try.ntmps49
    go_wp2
    go_ret
    exact ⟨ret_bool (by rw [plB_false.2 (by omega)]), rfl⟩
/-- What placeIn returns beside it. -/
def dotV (x y : Int) : Value := .agg #[.int .i8 x, .int .i8 y]
def placeV (f : Nat → Nat) (x y : Int) : Value := if askF f x y = 0 then dotV x y else dotV 0 0
set_option maxHeartbeats 400000 in
theorem placeIn_any (f : Nat → Nat) (x y : Int) (hf : ∀ k, f k < 65536) (w : World) :
    Calls Try.prog 38 #[.agg (FC f), .int .i64 x, .int .i64 y] w fun e w' => e = .returned (.tuple #[placeV f x y, .int .i64 (askF f x y)]) ∧ Below w.heap.size w w' := by
  have b1' := (Blk.new w 27 f).alloc (.cells #[.int .i8 0, .int .i8 0] 58)
  have r0 := Row.new (w.alloc (.cells (FC f) 27)) 58 #[.int .i8 0, .int .i8 0]
  rw [World.size_alloc] at r0
  have h0 := ((Below.refl w.heap.size w).alloc (Nat.le_refl _) (.cells (FC f) 27)).alloc (by simp) (.cells #[.int .i8 0, .int .i8 0] 58)
  cases ho : okF f with
  | false =>
    have hask : askF f x y = 1 := by simp [askF, ho]
    have HA := Lib.hid hask
    clear hask
    go_enter Try.func38, Try.ntmps38
    go_wp2_with (first | (refine wpList_load_fr rfl 27 24 _ rfl _ rfl b1' Try.underlying27 (by kernel_rfl) ?_) | (go_at_call 15; refine (valid_any f hf _).mono ?_; rintro e w1 ⟨rfl, hb1⟩; have r1 := r0.below hb1 (by simp)) | (go_at_call 49; refine (isPlace_any _ _ _).mono ?_; rintro e w' ⟨rfl, rfl⟩) | (refine wpList_store_row rfl 58 _ _ rfl _ rfl r1 rfl rfl (by intro v hv; simp at hv; rcases hv with rfl | rfl <;> rfl) (by kernel_rfl) ?_))
    have hask := HA.out
    refine bodyPost_ret_row2 (p := 6) (u := 7) (ty := 58) rfl rfl (r1.setRow _) Try.underlying58 rfl (by kernel_rfl) rfl ⟨?_, below_setRow ((h0.trans (hb1.mono (by simp; omega)))) (by omega) _⟩
    simp only [placeV, hask]; rfl
  | true =>
    cases hp : plB x y with
    | false =>
      have hask : askF f x y = 2 := by simp [askF, ho, hp]
      have HA := Lib.hid hask
      clear hask
      go_enter Try.func38, Try.ntmps38
      go_wp2_with (first | (refine wpList_load_fr rfl 27 24 _ rfl _ rfl b1' Try.underlying27 (by kernel_rfl) ?_) | (go_at_call 15; refine (valid_any f hf _).mono ?_; rintro e w1 ⟨rfl, hb1⟩; have r1 := r0.below hb1 (by simp)) | (go_at_call 49; refine (isPlace_any _ _ _).mono ?_; rintro e w' ⟨rfl, rfl⟩) | (refine wpList_store_row rfl 58 _ _ rfl _ rfl r1 rfl rfl (by intro v hv; simp at hv; rcases hv with rfl | rfl <;> rfl) (by kernel_rfl) ?_))
      have hask := HA.out
      refine bodyPost_ret_row2 (p := 6) (u := 7) (ty := 58) rfl rfl (r1.setRow _) Try.underlying58 rfl (by kernel_rfl) rfl ⟨?_, below_setRow ((h0.trans (hb1.mono (by simp; omega)))) (by omega) _⟩
      simp only [placeV, hask]; rfl
    | true =>
      have hask : askF f x y = 0 := by simp [askF, ho, hp]
      have HA := Lib.hid hask
      clear hask
      have hxy := plB_iff.1 hp
      have wx : IntKind.i8.wrap x = x := by simp [IntKind.wrap, IntKind.bits, IntKind.signed]; omega
      have wy : IntKind.i8.wrap y = y := by simp [IntKind.wrap, IntKind.bits, IntKind.signed]; omega
      go_enter Try.func38, Try.ntmps38
      go_wp2_with (first | (refine wpList_load_fr rfl 27 24 _ rfl _ rfl b1' Try.underlying27 (by kernel_rfl) ?_) | (go_at_call 15; refine (valid_any f hf _).mono ?_; rintro e w1 ⟨rfl, hb1⟩; have r1 := r0.below hb1 (by simp)) | (go_at_call 49; refine (isPlace_any _ _ _).mono ?_; rintro e w' ⟨rfl, rfl⟩) | (refine wpList_store_row rfl 58 _ _ rfl _ rfl r1 rfl rfl (by intro v hv; simp at hv; rcases hv with rfl | rfl <;> rfl) (by kernel_rfl) ?_))
      have hask := HA.out
      refine bodyPost_ret_row2 (p := 6) (u := 7) (ty := 58) rfl rfl (r1.setRow _) Try.underlying58 rfl (by kernel_rfl) rfl ⟨?_, below_setRow ((h0.trans (hb1.mono (by simp; omega)))) (by omega) _⟩
      simp only [placeV, hask]; rfl
set_option maxHeartbeats 400000 in
theorem dhas_any (f : Nat → Nat) (x y : Nat) (hx : x < 12) (hy : y < 12) (hf : ∀ k, f k < 65536) (w : World) :
    Calls Try.prog 39 #[.agg (FC f), .agg #[.int .i8 x, .int .i8 y]] w fun e w' => e = .returned (.bool ((f y).testBit x)) ∧ Below w.heap.size w w' := by
  have b1 := Blk.new w 27 f
  have b1' := b1.alloc (.cells #[.int .i8 x, .int .i8 y] 58)
  have c1 := b1'.cell hy
  have hfy := hf y
  go_enter Try.func39, Try.ntmps39
  go_wp2
  go_quiet (fail)
  go_wp2
  go_ret
  refine ⟨ret_bool (and1_bit hfy x), ?_⟩
  exact below_drewN (((Below.refl _ _).alloc (Nat.le_refl _) _).alloc (by simp) _) _
set_option maxHeartbeats 400000 in
theorem dwith_any (f : Nat → Nat) (x y : Nat) (hx : x < 12) (hy : y < 12) (hf : ∀ k, f k < 65536) (w : World) :
    Calls Try.prog 41 #[.agg (FC f), .agg #[.int .i8 x, .int .i8 y]] w fun e w' => e = .returned (.agg (FC (putF f x y))) ∧ Below w.heap.size w w' := by
  have b1 := Blk.new w 27 f
  have b1' := (b1.alloc (.cells #[.int .i8 x, .int .i8 y] 58)).alloc (.cells (FC zeroF) 27)
  have b3 := Blk.new ((w.alloc (.cells (FC f) 27)).alloc (.cells #[.int .i8 x, .int .i8 y] 58)) 27 zeroF
  rw [World.size_alloc, World.size_alloc] at b3
  have c1 := b1'.cell hy
  have f1 := b1'.free y
  have hfy := hf y
  have hop := u16_or_pow hfy (show x < 16 by omega)
  rw [FC_zero] at c1 f1
  go_enter Try.func41, Try.ntmps41
  go_wp2
  go_region
  rw [← FC_zero, FC_set f _ hy]
  have a1 := ((Blk.new w 27 (upd f y (f y ||| 2 ^ x))).alloc (.cells #[.int .i8 x, .int .i8 y] 58)).alloc (.cells (FC zeroF) 27)
  have a3 := Blk.new ((w.alloc (.cells (FC (upd f y (f y ||| 2 ^ x))) 27)).alloc (.cells #[.int .i8 x, .int .i8 y] 58)) 27 zeroF
  rw [World.size_alloc, World.size_alloc] at a3
  have hb := (((Below.refl w.heap.size w).alloc (Nat.le_refl _) (.cells (FC (upd f y (f y ||| 2 ^ x))) 27)).alloc (by simp) (.cells #[.int .i8 x, .int .i8 y] 58)).alloc (by simp; omega) (.cells (FC zeroF) 27)
  have b1'' := a1.drew
  have b3'' := a3.drew
  have hb'' := hb.drew
  generalize (World.alloc _ (.cells (FC zeroF) 27)).drew = w1 at b1'' b3'' hb'' ⊢
  clear a1 a3 hb c1 f1 hop b1 b1' b3
  go_wp2_with (first | (refine wpList_load_fr rfl 27 24 _ rfl _ rfl b1'' Try.underlying27 (by kernel_rfl) ?_) | (refine wpList_store_fr rfl 27 _ _ rfl _ rfl b3'' rfl (by kernel_rfl) ?_))
  refine bodyPost_ret_fr (p := 4) (ty := 27) (e := 24) rfl rfl (b3''.setRow _) Try.underlying27 (by kernel_rfl) rfl ⟨?_, below_setRow hb'' (by omega) _⟩
  have hp : plB (x : Int) (y : Int) = true := plB_iff.2 (by omega)
  simp only [putF, hp, if_true, Int.toNat_natCast]
end Go.Proofs.Ytemeamamdddfnaa
