/- slices.Reverse at the twelve rows of a frame; impl: Frame.flipped; spec: FlipFrame. -/
import Derived.Test.YtemeamamdddfnaaDoorRows
import Derived.Test.YtemeamamdddfnaaDoorSInvert
import Derived.Shelf.RegionOpenPlain
namespace Go.Proofs.YtemeamamdddfnaaDoor
open Go.RowKit
set_option linter.unusedVariables false
def flipF (f : Nat → Nat) : Nat → Nat := fun y => f (11 - y)
def flipTo (f : Nat → Nat) (k : Nat) : Nat → Nat := fun y => if y < k ∨ 11 - k < y then f (11 - y) else f y
set_option maxHeartbeats 1000000 in
theorem reverse_any (B : Nat) (f : Nat → Nat) (w : World) (hB : Blk w B 27 f) :
    Calls Tryd.prog 43 #[.slice (some ⟨B, 0, none⟩) 12 12] w fun e w' => e = .returned (.tuple #[]) ∧ Blk w' B 27 (flipF f) ∧ Wrote B w w' := by
  have hw := Wrote.refl B w
  have mixed : Tryd.prog.follows .mixedOrders = true := by kernel_rfl
  go_enter Tryd.func43, Tryd.ntmps43
  go_wp2
  go_loopw [2, 3] (fun i j wr => ∃ k : Nat, k ≤ 6 ∧ i = .int .i64 k ∧ j = .int .i64 (11 - k) ∧ Blk wr B 27 (flipTo f k) ∧ Wrote B w wr) (fun i _ _ => 12 - (intOf i).toNat)
  case atStart => exact ⟨0, by omega, rfl, by simp, hB.ext (by intro j hj; unfold flipTo; rw [if_neg (by omega)]), hw⟩
  case round =>
    obtain ⟨k, hk, rfl, rfl, h1, hw⟩ := hrel
    by_cases hlt : k < 6
    · have ci := h1.cell (show k < 12 by omega)
      have cj := h1.cell (show 11 - k < 12 by omega)
      have fi := h1.free k
      have fj := h1.free (11 - k)
      have ei : flipTo f k k = f k := by unfold flipTo; rw [if_neg (by omega)]
      have ej : flipTo f k (11 - k) = f (11 - k) := by unfold flipTo; rw [if_neg (by omega)]
      rw [ei] at ci
      rw [ej] at cj
      have hj : ((11 : Int) - k) = ((11 - k : Nat) : Int) := by omega
      rw [hj]
      generalize hm : 11 - k = m at *
      have hkm : k < m := by omega
      have hm12 : m < 12 := by omega
      clear ei ej hj
      go_wp2_with fail
      go_region_o
      go_wp2
      go_roundw
      case rel =>
        go_light
        refine ⟨k + 1, by omega, by go_num, by congr 1; omega, (((h1.set (show k < 12 by omega) (f m)).set hm12 (f k)).drew).ext ?_, (((hw.setCell rfl _).setCell rfl _).drew)⟩
        intro j hj
        subst hm
        unfold upd flipTo
        by_cases h1 : j = 11 - k
        · subst h1; rw [if_pos rfl, if_pos (by omega)]; congr 1; omega
        · rw [if_neg h1]
          by_cases h2 : j = k
          · subst h2; rw [if_pos rfl, if_pos (by omega)]
          · rw [if_neg h2]
            by_cases h3 : j < k ∨ 11 - k < j
            · rw [if_pos h3, if_pos (by omega)]
            · rw [if_neg h3, if_neg (by omega)]
      case measure => simp [intOf]; omega
    · have : k = 6 := by omega
      subst this
      go_wp2
      go_end0
      refine ⟨rfl, ?_, hw⟩
      exact h1.ext (by intro j hj; unfold flipTo flipF; by_cases h : j < 6 <;> simp [h] <;> intro h' <;> omega)
set_option maxHeartbeats 400000 in
theorem flipped_any (f : Nat → Nat) (hf : ∀ k, f k < 65536) (w : World) :
    Calls Tryd.prog 37 #[.agg (FC f)] w fun e w' => e = .returned (.agg (FC (flipF f))) ∧ Below w.heap.size w w' := by
  go_enter Tryd.func37, Tryd.ntmps37
  have b1 := Blk.new w 27 f
  have b2 := Blk.new (w.alloc (.cells (FC f) 27)) 27 zeroF
  have b1' := b1.alloc (.cells (FC zeroF) 27)
  have hb := ((Below.refl w.heap.size w).alloc (Nat.le_refl _) (.cells (FC f) 27)).alloc (by simp) (.cells (FC zeroF) 27)
  rw [World.size_alloc] at b2
  clear b1
  rw [FC_zero] at b1' b2 hb
  go_wp2_with fail
  generalize ((w.alloc (.cells (FC f) 27)).alloc _) = w1 at *
  refine (reverse_any _ f _ b1').mono ?_
  rintro e w2 ⟨rfl, b3, hw⟩
  replace b2 := hw.blk b2 (by omega)
  replace hb := hw.below hb (Nat.le_refl _) hb.size
  go_wp2_with (first | (refine wpList_load_fr rfl 27 22 _ rfl _ rfl b3 Tryd.underlying27 (by kernel_rfl) ?_) | (refine wpList_store_fr rfl 27 _ _ rfl _ rfl b2 rfl (by kernel_rfl) ?_))
  exact bodyPost_ret_fr (p := 2) (ty := 27) (e := 22) rfl rfl (b2.setRow _) Tryd.underlying27 (by kernel_rfl) rfl ⟨rfl, below_setRow hb (by omega) _⟩
theorem flipF_lt {f : Nat → Nat} (hf : ∀ k, f k < 65536) (k : Nat) : flipF f k < 65536 := hf _
set_option maxHeartbeats 1000000 in
theorem specFlipFrame_any (f : Nat → Nat) (hf : ∀ k, f k < 65536) (w : World) :
    Calls Tryd.prog 18 #[.agg (FC f)] w fun e' w' => e' = .returned (.tuple #[.agg (FC (ifC (okC f) (flipF f))), .int .i64 (okC f)]) ∧ Below w.heap.size w w' := by
  have b1 := (Blk.new w 27 f).alloc (.cells (FC zeroF) 27)
  have b2 := Blk.new (w.alloc (.cells (FC f) 27)) 27 zeroF
  rw [World.size_alloc] at b2
  have h0 := ((Below.refl w.heap.size w).alloc (Nat.le_refl _) (.cells (FC f) 27)).alloc (by simp) (.cells (FC zeroF) 27)
  rw [FC_zero] at b1 b2 h0
  rcases okC_cases f with ⟨ho, ha⟩ | ⟨ho, ha⟩
  · have hv : ifC 1 (flipF f) = zeroF := by simp [ifC]
    go_enter Tryd.func18, Tryd.ntmps18
    go_wp2_with fail
    generalize ((w.alloc _).alloc _) = w1 at *
    refine (ok_any _ f _ b1).mono ?_
    rintro e' w' ⟨rfl, rfl⟩
    go_wp2_with (refine wpList_store_fr (f := zeroF) rfl 27 _ _ rfl _ rfl b2 rfl (by kernel_rfl) ?_)
    exact bodyPost_ret_fr2 (p := 2) (u := 3) (ty := 27) (e := 22) rfl rfl (b2.setRow _) Tryd.underlying27 (by kernel_rfl) rfl ⟨by rw [ha, hv]; rfl, below_setRow h0 (by omega) _⟩
  · have hv : ifC 0 (flipF f) = flipF f := by simp [ifC]
    go_enter Tryd.func18, Tryd.ntmps18
    go_wp2_with fail
    generalize ((w.alloc _).alloc _) = w1 at *
    refine (ok_any _ f _ b1).mono ?_
    rintro e' w' ⟨rfl, rfl⟩
    go_wp2_with fail
    have b3 := Blk.new w1 27 zeroF
    have hlt2 := b2.lt
    replace b1 := b1.alloc (.cells (FC zeroF) 27)
    replace b2 := b2.alloc (.cells (FC zeroF) 27)
    have hsz := h0.size
    replace h0 := h0.alloc h0.size (.cells (FC zeroF) 27)
    rw [FC_zero] at b1 b2 b3 h0
    generalize (w1.alloc _) = w2 at b1 b2 b3 h0 ⊢
    generalize hB3 : w1.heap.size = B3 at *
    go_loopw [5] (fun i wr => ∃ k : Nat, k ≤ 12 ∧ i = .int .i64 k ∧ Blk wr w.heap.size 27 f ∧ Blk wr (w.heap.size + 1) 27 zeroF ∧ Blk wr B3 27 (fun y => if y < k then flipF f y else 0) ∧ Below w.heap.size w wr) (fun i _ => 12 - (intOf i).toNat)
    case atStart => exact ⟨0, by omega, rfl, b1, b2, b3.ext (by intro j hj; rfl), h0⟩
    case round =>
      obtain ⟨k, hk, rfl, h1, h2, h3, hb⟩ := hrel
      by_cases hlt : k < 12
      · have c1 := h1.cell (show 11 - k < 12 by omega)
        have c3 := h3.cell hlt
        have f3 := h3.free k
        have hj : ((11 - k : Nat) : Int) = 11 - (k : Int) := by omega
        have hne : B3 ≠ w.heap.size := by omega
        have hne2 : B3 ≠ w.heap.size + 1 := by omega
        generalize hm : 11 - k = m at *
        go_wp2
        go_roundw
        case rel =>
          go_light
          refine ⟨k + 1, by omega, by go_num, h1.other _ (by show _ ≠ B3; omega), h2.other _ (by show _ ≠ B3; omega), (h3.set hlt _).ext ?_, hb.setCell (by show _ ≤ B3; omega) _⟩
          intro j hj
          unfold upd
          by_cases e : j = k
          · subst e; rw [if_pos rfl, if_pos (by omega)]; unfold flipF; rw [hm]
          · rw [if_neg e]; simp only [show j < k + 1 ↔ j < k by omega]
        case measure => simp [intOf]; omega
      · go_wp2_with (first | (refine wpList_load_fr rfl 27 22 _ rfl _ rfl h3 Tryd.underlying27 (by kernel_rfl) ?_) | (refine wpList_store_fr rfl 27 _ _ rfl _ rfl h2 rfl (by kernel_rfl) ?_))
        refine bodyPost_ret_fr2 (p := 2) (u := 3) (ty := 27) (e := 22) rfl rfl (h2.setRow _) Tryd.underlying27 (by kernel_rfl) rfl ⟨?_, below_setRow hb (by omega) _⟩
        have he : FC (fun y => if y < k then flipF f y else 0) = FC (flipF f) := FC_ext (fun j hj => by rw [if_pos (by omega)])
        rw [ha, hv, ← he]
        rfl
end Go.Proofs.YtemeamamdddfnaaDoor
