/- WithDot, of spec and of impl. -/
import Derived.Test.YtemeamamdddfnaaRows
import Derived.Test.YtemeamamdddfnaaS1
import Derived.Test.YtemeamamdddfnaaIPlace
import Derived.Test.YtemeamamdddfnaaILess
namespace Go.Proofs.Ytemeamamdddfnaa
open Go.RowKit
set_option maxHeartbeats 1000000 in
theorem specWithDot_any (f : Nat → Nat) (x y : Int) (b : Bool) (hf : ∀ k, f k < 65536) (w : World) :
    Calls Try.prog 18 #[.agg (FC f), .int .i64 x, .int .i64 y, .bool b] w fun e w' => e = .returned (.tuple #[.agg (FC (withV f x y b)), .int .i64 (askF f x y)]) ∧ Below w.heap.size w w' := by
  have b1 := (Blk.new w 27 f).alloc (.cells (FC zeroF) 27)
  have b2 := Blk.new (w.alloc (.cells (FC f) 27)) 27 zeroF
  rw [World.size_alloc] at b2
  have h0 := ((Below.refl w.heap.size w).alloc (Nat.le_refl _) (.cells (FC f) 27)).alloc (by simp) (.cells (FC zeroF) 27)
  have hbl : ∀ w, (Instr.build 27 #[]).run Try.prog w = .ok (.agg (FC zeroF)) w := build_fr
  rw [FC_zero] at b1 b2 h0
  rcases askF_cases f x y with ⟨ho, ha⟩ | ⟨ho, hp, ha⟩ | ⟨ho, hp, ha⟩
  · have hv : withV f x y b = zeroF := by simp [withV, ha]
    go_enter Try.func18, Try.ntmps18
    go_wp2_with fail
    generalize ((w.alloc (.cells (FC f) 27)).alloc _) = w1 at *
    refine (asked_any _ f _ _ _ b1).mono ?_
    rintro e w' ⟨rfl, rfl⟩
    go_wp2_with (refine wpList_store_fr (f := zeroF) rfl 27 _ _ rfl _ rfl b2 rfl (by kernel_rfl) ?_)
    refine bodyPost_ret_fr2 (p := 8) (u := 9) (ty := 27) (e := 24) rfl rfl (b2.setRow _) Try.underlying27 (by kernel_rfl) rfl ⟨by rw [hv, ha]; rfl, below_setRow h0 (by omega) _⟩
  · have hv : withV f x y b = zeroF := by simp [withV, ha]
    go_enter Try.func18, Try.ntmps18
    go_wp2_with fail
    generalize ((w.alloc (.cells (FC f) 27)).alloc _) = w1 at *
    refine (asked_any _ f _ _ _ b1).mono ?_
    rintro e w' ⟨rfl, rfl⟩
    go_wp2_with (refine wpList_store_fr (f := zeroF) rfl 27 _ _ rfl _ rfl b2 rfl (by kernel_rfl) ?_)
    refine bodyPost_ret_fr2 (p := 8) (u := 9) (ty := 27) (e := 24) rfl rfl (b2.setRow _) Try.underlying27 (by kernel_rfl) rfl ⟨by rw [hv, ha]; rfl, below_setRow h0 (by omega) _⟩
  · have h1 := plB_iff.1 hp
    obtain ⟨x, rfl⟩ := Int.eq_ofNat_of_zero_le h1.1
    obtain ⟨y, rfl⟩ := Int.eq_ofNat_of_zero_le h1.2.2.1
    have hx : x < 12 := by omega
    have hy : y < 12 := by omega
    have hfy := hf y
    clear h1
    have c1 := b1.cell hy
    have f1 := b1.free y
    have hop := u16_clr_pow hfy (show x < 16 by omega)
    have hclt : ∀ k, clrF f x y k < 65536 := fun k => by
      unfold clrF upd; split
      · exact Nat.lt_of_le_of_lt Nat.and_le_left hfy
      · exact hf k
    have hput : putF (clrF f x y) (x : Int) (y : Int) = putF f (x : Int) (y : Int) := by
      funext j
      simp only [putF, hp, if_true, Int.toNat_natCast, clrF]
      unfold upd
      by_cases e : j = y
      · subst e; simp only [if_true]; exact clr_or hfy (by omega)
      · simp [e]
    cases b with
    | false =>
      have hv : withV f x y false = clrF f x y := by simp [withV, ha]
      go_enter Try.func18, Try.ntmps18
      go_wp2_with fail
      generalize ((w.alloc (.cells (FC f) 27)).alloc _) = w1 at *
      refine (asked_any _ f _ _ _ b1).mono ?_
      rintro e w' ⟨rfl, rfl⟩
      have b1' := b1.set hy (f y &&& (65535 - 2 ^ x))
      have b2' := b2.other (a := ⟨w.heap.size, y, none⟩) (.int .u16 ((f y &&& (65535 - 2 ^ x) : Nat) : Int)) (by show w.heap.size + 1 ≠ w.heap.size; omega)
      have h0' := h0.setCell (p := ⟨w.heap.size, y, none⟩) (Nat.le_refl _) (.int .u16 ((f y &&& (65535 - 2 ^ x) : Nat) : Int))
      go_wp2_with (first | (refine wpList_load_fr rfl 27 24 _ rfl _ rfl b1' Try.underlying27 (by kernel_rfl) ?_) | (refine wpList_store_fr rfl 27 _ _ rfl _ rfl b2' rfl (by kernel_rfl) ?_))
      refine bodyPost_ret_fr2 (p := 8) (u := 9) (ty := 27) (e := 24) rfl rfl (b2'.setRow _) Try.underlying27 (by kernel_rfl) rfl ⟨by rw [hv, ha]; rfl, below_setRow h0' (by omega) _⟩
    | true =>
      have hv : withV f x y true = putF f x y := by simp [withV, ha]
      go_enter Try.func18, Try.ntmps18
      go_wp2_with fail
      generalize ((w.alloc (.cells (FC f) 27)).alloc _) = w1 at *
      refine (asked_any _ f _ _ _ b1).mono ?_
      rintro e w' ⟨rfl, rfl⟩
      have b1' := b1.set hy (f y &&& (65535 - 2 ^ x))
      have b2' := b2.other (a := ⟨w.heap.size, y, none⟩) (.int .u16 ((f y &&& (65535 - 2 ^ x) : Nat) : Int)) (by show w.heap.size + 1 ≠ w.heap.size; omega)
      have h0' := h0.setCell (p := ⟨w.heap.size, y, none⟩) (Nat.le_refl _) (.int .u16 ((f y &&& (65535 - 2 ^ x) : Nat) : Int))
      go_wp2_with (first | (go_at_call 40; refine (put_any _ (clrF f x y) _ _ _ hclt b1').mono ?_; rintro e w2 ⟨rfl, hw, b1''⟩; replace b2' := hw.blk b2' (by omega); replace h0' := hw.below h0' (Nat.le_refl _) h0'.size; rw [hput] at b1''; clear b1' hw) | (refine wpList_load_fr rfl 27 24 _ rfl _ rfl b1'' Try.underlying27 (by kernel_rfl) ?_) | (refine wpList_store_fr rfl 27 _ _ rfl _ rfl b2' rfl (by kernel_rfl) ?_))
      refine bodyPost_ret_fr2 (p := 8) (u := 9) (ty := 27) (e := 24) rfl rfl (b2'.setRow _) Try.underlying27 (by kernel_rfl) rfl ⟨by rw [hv, ha]; rfl, below_setRow h0' (by omega) _⟩
set_option maxHeartbeats 1000000 in
theorem implWithDot_any (f : Nat → Nat) (x y : Int) (b : Bool) (hf : ∀ k, f k < 65536) (w : World) :
    Calls Try.prog 19 #[.agg (FC f), .int .i64 x, .int .i64 y, .bool b] w fun e w' => e = .returned (.tuple #[.agg (FC (withV f x y b)), .int .i64 (askF f x y)]) ∧ Below w.heap.size w w' := by
  have b1 := (Blk.new w 27 f).alloc (.cells (FC zeroF) 27)
  have b2 := Blk.new (w.alloc (.cells (FC f) 27)) 27 zeroF
  rw [World.size_alloc] at b2
  have h0 := ((Below.refl w.heap.size w).alloc (Nat.le_refl _) (.cells (FC f) 27)).alloc (by simp) (.cells (FC zeroF) 27)
  have hbl : ∀ w, (Instr.build 27 #[]).run Try.prog w = .ok (.agg (FC zeroF)) w := build_fr
  rw [FC_zero] at b1 b2 h0
  rcases askF_cases f x y with ⟨ho, ha⟩ | ⟨ho, hp, ha⟩ | ⟨ho, hp, ha⟩
  · have hv : withV f x y b = zeroF := by simp [withV, ha]
    have hd : placeV f x y = .agg #[.int .i8 0, .int .i8 0] := by simp [placeV, ha, dotV]
    go_enter Try.func19, Try.ntmps19
    go_wp2_with (first | (refine wpList_load_fr rfl 27 24 _ rfl _ rfl b1 Try.underlying27 (by kernel_rfl) ?_) | (go_at_call 38; refine (placeIn_any f _ _ hf _).mono ?_; rintro e w1 ⟨rfl, hb1⟩; replace b1 := b1.below hb1 b1.lt; replace b2 := b2.below hb1 b2.lt; replace h0 := grown_below h0 hb1 h0.size; clear hb1) | (refine wpList_store_fr (f := zeroF) rfl 27 _ _ rfl _ rfl (b2.alloc _) rfl (by kernel_rfl) ?_))
    refine bodyPost_ret_fr2 (p := 8) (u := 9) (ty := 27) (e := 24) rfl rfl ((b2.alloc _).setRow _) Try.underlying27 (by kernel_rfl) rfl ⟨by rw [hv, ha]; rfl, below_setRow (h0.alloc h0.size _) (by omega) _⟩
  · have hv : withV f x y b = zeroF := by simp [withV, ha]
    have hd : placeV f x y = .agg #[.int .i8 0, .int .i8 0] := by simp [placeV, ha, dotV]
    go_enter Try.func19, Try.ntmps19
    go_wp2_with (first | (refine wpList_load_fr rfl 27 24 _ rfl _ rfl b1 Try.underlying27 (by kernel_rfl) ?_) | (go_at_call 38; refine (placeIn_any f _ _ hf _).mono ?_; rintro e w1 ⟨rfl, hb1⟩; replace b1 := b1.below hb1 b1.lt; replace b2 := b2.below hb1 b2.lt; replace h0 := grown_below h0 hb1 h0.size; clear hb1) | (refine wpList_store_fr (f := zeroF) rfl 27 _ _ rfl _ rfl (b2.alloc _) rfl (by kernel_rfl) ?_))
    refine bodyPost_ret_fr2 (p := 8) (u := 9) (ty := 27) (e := 24) rfl rfl ((b2.alloc _).setRow _) Try.underlying27 (by kernel_rfl) rfl ⟨by rw [hv, ha]; rfl, below_setRow (h0.alloc h0.size _) (by omega) _⟩
  · have h1 := plB_iff.1 hp
    obtain ⟨x, rfl⟩ := Int.eq_ofNat_of_zero_le h1.1
    obtain ⟨y, rfl⟩ := Int.eq_ofNat_of_zero_le h1.2.2.1
    have hx : x < 12 := by omega
    have hy : y < 12 := by omega
    have hd : placeV f x y = .agg #[.int .i8 x, .int .i8 y] := by simp [placeV, ha, dotV]
    clear h1
    cases b with
    | true =>
      have hv : withV f x y true = putF f x y := by simp [withV, ha]
      go_enter Try.func19, Try.ntmps19
      go_wp2_with (first | (refine wpList_load_fr rfl 27 24 _ rfl _ rfl b1 Try.underlying27 (by kernel_rfl) ?_) | (go_at_call 38; refine (placeIn_any f _ _ hf _).mono ?_; rintro e w1 ⟨rfl, hb1⟩; replace b1 := b1.below hb1 b1.lt; replace b2 := b2.below hb1 b2.lt; replace h0 := grown_below h0 hb1 h0.size; clear hb1) | (refine wpList_load_fr rfl 27 24 _ rfl _ rfl (b1.alloc _) Try.underlying27 (by kernel_rfl) ?_) | (go_at_call 41; refine (dwith_any f x y hx hy hf _).mono ?_; rintro e w2 ⟨rfl, hb2⟩; replace b2 := (b2.alloc _).below hb2 (b2.alloc _).lt; replace h0 := grown_below (h0.alloc h0.size _) hb2 (h0.alloc h0.size _).size; clear hb2) | (refine wpList_store_fr rfl 27 _ _ rfl _ rfl b2 rfl (by kernel_rfl) ?_))
      refine bodyPost_ret_fr2 (p := 8) (u := 9) (ty := 27) (e := 24) rfl rfl (b2.setRow _) Try.underlying27 (by kernel_rfl) rfl ⟨by rw [hv, ha]; rfl, below_setRow h0 (by omega) _⟩
    | false =>
      have hv : withV f x y false = clrF f x y := by simp [withV, ha]
      go_enter Try.func19, Try.ntmps19
      go_wp2_with (first | (refine wpList_load_fr rfl 27 24 _ rfl _ rfl b1 Try.underlying27 (by kernel_rfl) ?_) | (go_at_call 38; refine (placeIn_any f _ _ hf _).mono ?_; rintro e w1 ⟨rfl, hb1⟩; replace b1 := b1.below hb1 b1.lt; replace b2 := b2.below hb1 b2.lt; replace h0 := grown_below h0 hb1 h0.size; clear hb1))
      have b1' := b1.alloc (.cells #[.int .i8 x, .int .i8 y] 58)
      have b2' := b2.alloc (.cells #[.int .i8 x, .int .i8 y] 58)
      have h0' := h0.alloc h0.size (.cells #[.int .i8 x, .int .i8 y] 58)
      have r3 := Row.new w1 58 #[.int .i8 x, .int .i8 y]
      generalize w1.alloc _ = w2 at b1' b2' h0' r3 ⊢
      have hpz : ∀ k, putF zeroF (x : Int) (y : Int) k < 65536 := fun k => by
        simp only [putF, hp, if_true, Int.toNat_natCast]
        unfold upd; split
        · simp only [zeroF, Nat.zero_or]; exact Nat.pow_lt_pow_right (n := 16) (by decide) (by omega)
        · exact zeroF_lt k
      have cW := fun w => dwith_any zeroF x y hx hy zeroF_lt w
      have cL := fun w => less_any f (putF zeroF x y) hf hpz w
      have hcl : FC (lessF f (putF zeroF x y)) = FC (clrF f x y) := FC_ext (fun k hk => by
        simp only [lessF, putF, hp, if_true, Int.toNat_natCast, clrF]
        unfold upd
        by_cases e : k = y
        · subst e; simp [zeroF]
        · simp only [e, if_false, zeroF, Nat.sub_zero]
          have := hf k
          rw [show 65535 = 2 ^ 16 - 1 by rfl, Nat.and_two_pow_sub_one_eq_mod]
          omega)
      rw [hcl] at cL
      clear hcl b1 b2 h0
      refine wp_region_tail 5 (by kernel_rfl) (by kernel_rfl) ?_
      simp only [List.take_succ_cons, List.take_zero, List.drop_succ_cons, List.drop_zero]
      repeat (first | (refine wpQuiet_load_fr rfl 27 24 _ rfl _ rfl b1' Try.underlying27 (by kernel_rfl) ?_) | (refine wpQuiet_load_row rfl 58 _ rfl _ rfl r3 Try.underlying58 rfl (by kernel_rfl) ?_) | quiet_step (first | exact Calls.regrown_of (cW _) | exact Calls.regrown_of (cL _)))
      refine wpQuiet_nil ?_
      intro w3 hb3
      replace b2' := b2'.below hb3 b2'.lt
      replace h0' := grown_below h0' hb3 h0'.size
      go_wp2_with (refine wpList_store_fr rfl 27 _ _ rfl _ rfl b2' rfl (by kernel_rfl) ?_)
      refine bodyPost_ret_fr2 (p := 8) (u := 9) (ty := 27) (e := 24) rfl rfl (b2'.setRow _) Try.underlying27 (by kernel_rfl) rfl ⟨by rw [hv, ha]; rfl, below_setRow h0' (by omega) _⟩
end Go.Proofs.Ytemeamamdddfnaa
