/- PARITIES: what an odd number of pages have; spec: l06Parity, ParityOf; impl: Book.parity, ParityOf. -/
import Derived.Test.YtjbjbdkmomkclaaSBook
import Derived.Test.YtjbjbdkmomkclaaIBook
import Derived.Test.YtjbjbdkmomkclaaIUnlike
import Derived.Test.YtjbjbdkmomkclaaIValid
import Derived.Test.YtjbjbdkmomkclaaCellQ
namespace Go.Proofs.Ytjbjbdkmomkclaa
set_option maxRecDepth 100000
open Go.RowKit
set_option linter.unusedVariables false
set_option linter.unusedSimpArgs false
/-- The parity of the first k pages. -/
def parN (L : List (Nat → Nat)) : Nat → Nat → Nat
  | 0 => zeroF
  | k + 1 => unlikeF (parN L k) (fAt L k)
def parF (L : List (Nat → Nat)) : Nat → Nat := parN L L.length
theorem parN_lt {L : List (Nat → Nat)} (hL : ltL L) : ∀ k y, parN L k y < 65536
  | 0, y => zeroF_lt y
  | k + 1, y => unlikeF_lt (parN_lt hL k) (fAt_lt hL k) y
set_option maxHeartbeats 2000000 in
theorem specParity_any (v : Value) (L : List (Nat → Nat)) (w : World) (hL : ltL L) (h : SlAt eFr w w.heap.size v L) :
    Calls Try.prog 58 #[v] w fun e w' => e = .returned (.agg (FC (parF L))) ∧ Below w.heap.size w w' := by
  obtain ⟨A, c, rfl, h1, h2, hA⟩ := h
  unfold maxLen at h2
  have hbl : ∀ w, (Instr.build 41 #[]).run Try.prog w = .ok (.agg (FC zeroF)) w := build_fr
  have b4 := (Blk.new w 41 zeroF).alloc (.cells (FC zeroF) 41)
  have b5 := Blk.new (w.alloc (.cells (FC zeroF) 41)) 41 zeroF
  rw [World.size_alloc] at b5
  have h0 := ((Below.refl w.heap.size w).alloc (Nat.le_refl _) (.cells (FC zeroF) 41)).alloc (by simp) (.cells (FC zeroF) 41)
  rw [FC_zero] at b4 b5 h0
  go_enter Try.func58, Try.ntmps58
  go_wp2_with (refine wpList_store_new (f0 := zeroF) (f := zeroF) rfl 41 _ _ rfl rfl rfl (by kernel_rfl) ?_)
  clear hbl
  try rw [FC_zero]
  generalize ((w.alloc _).alloc _) = w1 at *
  go_loopw [4] (fun i wr => ∃ k : Nat, k ≤ L.length ∧ i = .int .i64 k ∧ Blk wr w.heap.size 41 zeroF ∧ Blk wr (w.heap.size + 1) 41 (parN L k) ∧ Below w.heap.size w wr) (fun i _ => L.length - (intOf i).toNat)
  case atStart => exact ⟨0, by omega, rfl, b4, b5, h0⟩
  case round =>
    clear b4 b5 h0
    obtain ⟨k, hk, rfl, b4, b5, hb0⟩ := hrel
    by_cases hlt : k < L.length
    · obtain ⟨b1, o1, rfl, hb1, r1⟩ := hA (by omega)
      have g1 := range_part r1 (fAt_get hlt)
      rw [eFr_n] at g1
      clear hA r1
      go_wp2
      go_loopw [5] (fun i wr => ∃ y : Nat, y ≤ 12 ∧ i = .int .i64 y ∧ Blk wr w.heap.size 41 zeroF ∧ Blk wr (w.heap.size + 1) 41 (fun j => if j < y then parN L (k + 1) j else parN L k j) ∧ Below w.heap.size w wr) (fun i _ => 12 - (intOf i).toNat)
      case atStart => exact ⟨0, by omega, rfl, b4, b5.ext (by simp), hb0⟩
      case round =>
        clear b4 b5 hb0
        obtain ⟨y, hy, rfl, b4, b5, hb0⟩ := hrel
        by_cases hly : y < 12
        · have c1 := cell_q (b5.cell hly)
          have c2 := cell_q (fr_cell (range_below g1 hb0 hb1) hly)
          simp only [if_neg (Nat.lt_irrefl y)] at c1
          have k1 := u16_xor_nat (parN L k y) (fAt L k y) (parN_lt hL k y) (fAt_lt hL k y)
          have hm : parN L (k + 1) y = parN L k y ^^^ fAt L k y := rfl
          rw [← hm] at k1
          have HM := Lib.hid hm
          clear hm g1
          go_wp2_with fail
          refine wp_region_tail 11 (by kernel_rfl) (by kernel_rfl) ?_
          simp only [List.take_succ_cons, List.take_zero, List.drop_succ_cons, List.drop_zero]
          repeat (quiet_step (fail))
          refine wpQuiet_nil ?_
          intro w5 hb5
          replace b4 := b4.below hb5 b4.lt
          replace b5 := b5.below hb5 b5.lt
          replace hb0 := grown_below hb0 hb5 hb0.size
          have c5 := b5.cell hly
          have f5 := b5.free y
          clear c1 c2 k1 hb5
          go_wp2
          go_roundw
          case rel =>
            go_light
            refine ⟨y + 1, by omega, by go_num, b4.other _ (by show w.heap.size ≠ w.heap.size + 1; omega), (b5.set hly _).ext ?_, hb0.setCell (by show w.heap.size ≤ w.heap.size + 1; omega) _⟩
            intro j hj
            unfold upd
            by_cases e : j = y
            · subst e; simp
            · rw [if_neg e]; simp only [show j < y + 1 ↔ j < y by omega]
          case measure => simp [intOf]; omega
        · have h12 : y = 12 := by omega
          subst h12
          replace b5 := b5.ext (f' := parN L (k + 1)) (fun j hj => by rw [if_pos (by omega)])
          go_wp2
          go_roundw
          case rel =>
            go_light
            exact ⟨k + 1, by omega, by go_num, b4, b5, hb0⟩
          case measure => simp [intOf]; omega
    · have hkl : k = L.length := by omega
      subst hkl
      clear hA
      go_wp2_with (first | (refine wpList_load_fr rfl 41 39 _ rfl _ rfl b5 Try.underlying41 (by kernel_rfl) ?_) | (refine wpList_store_fr rfl 41 _ _ rfl _ rfl b4 rfl (by kernel_rfl) ?_))
      exact bodyPost_ret_fr (p := 2) (ty := 41) (e := 39) rfl rfl (b4.setRow _) Try.underlying41 (by kernel_rfl) rfl ⟨rfl, below_setRow hb0 (by omega) _⟩
set_option maxHeartbeats 1000000 in
theorem specParityOf_any (v : Value) (L : List (Nat → Nat)) (w : World) (hL : ltL L) (h : SlAt eFr w w.heap.size v L) :
    Calls Try.prog 24 #[v] w fun e w' => e = .returned (.tuple #[.agg (FC (ifC (okBC L) (parF L))), .int .i64 (okBC L)]) ∧ Below w.heap.size w w' := by
  have b2 := Blk.new w 41 zeroF
  have h0 := (Below.refl w.heap.size w).alloc (Nat.le_refl _) (.cells (FC zeroF) 41)
  have cO := fun w' (hb : Below w.heap.size w w') => specOk_any v L w' (h.later hb)
  have cP := fun w' (hb : Below w.heap.size w w') => specParity_any v L w' hL (h.later hb)
  rw [FC_zero] at b2 h0
  clear h
  rcases okBC_cases L with ⟨ho, hc⟩ | ⟨ho, hc⟩
  · rw [hc]
    rw [ho] at cO
    have hv : ifC 1 (parF L) = zeroF := by simp [ifC]
    rw [hv]
    clear hv hc ho cP
    go_enter Try.func24, Try.ntmps24
    go_wp2_with (first | (go_at_call 57; refine (cO _ h0).mono ?_; rintro e w' ⟨rfl, rfl⟩) | (refine wpList_store_fr (f := zeroF) rfl 41 _ _ rfl _ rfl b2 rfl (by kernel_rfl) ?_))
    exact bodyPost_ret_fr2 (p := 2) (u := 3) (ty := 41) (e := 39) rfl rfl (b2.setRow _) Try.underlying41 (by kernel_rfl) rfl ⟨rfl, below_setRow h0 (by omega) _⟩
  · rw [hc]
    rw [ho] at cO
    have hv : ifC 0 (parF L) = parF L := by simp [ifC]
    rw [hv]
    clear hv hc ho
    go_enter Try.func24, Try.ntmps24
    go_wp2_with (first | (go_at_call 57; refine (cO _ h0).mono ?_; rintro e w' ⟨rfl, rfl⟩) | (go_at_call 58; refine (cP _ h0).mono ?_; rintro e w1 ⟨rfl, hb⟩; replace b2 := b2.below hb b2.lt; replace h0 := grown_below h0 hb h0.size; clear hb) | (refine wpList_store_fr rfl 41 _ _ rfl _ rfl b2 rfl (by kernel_rfl) ?_))
    exact bodyPost_ret_fr2 (p := 2) (u := 3) (ty := 41) (e := 39) rfl rfl (b2.setRow _) Try.underlying41 (by kernel_rfl) rfl ⟨rfl, below_setRow h0 (by omega) _⟩
set_option maxHeartbeats 2000000 in
theorem parity_any (v : Value) (L : List (Nat → Nat)) (w : World) (hL : ltL L) (h : SlAt eFr w w.heap.size v L) :
    Calls Try.prog 60 #[v] w fun e w' => e = .returned (.agg (FC (parF L))) ∧ Below w.heap.size w w' := by
  obtain ⟨A, c, rfl, h1, h2, hA⟩ := h
  unfold maxLen at h2
  have b4 := (Blk.new w 41 zeroF).alloc (.cells (FC zeroF) 41)
  have b5 := Blk.new (w.alloc (.cells (FC zeroF) 41)) 41 zeroF
  rw [World.size_alloc] at b5
  have h0 := ((Below.refl w.heap.size w).alloc (Nat.le_refl _) (.cells (FC zeroF) 41)).alloc (by simp) (.cells (FC zeroF) 41)
  rw [FC_zero] at b4 b5 h0
  go_enter Try.func60, Try.ntmps60
  go_wp2
  generalize ((w.alloc _).alloc _) = w1 at *
  go_loopw [8] (fun i wr => ∃ k : Nat, k ≤ L.length ∧ i = .int .i64 k ∧ Blk wr w.heap.size 41 zeroF ∧ Blk wr (w.heap.size + 1) 41 (parN L k) ∧ Below w.heap.size w wr) (fun i _ => L.length - (intOf i).toNat)
  case atStart => exact ⟨0, by omega, rfl, b4, b5, h0⟩
  case round =>
    clear b4 b5 h0
    obtain ⟨k, hk, rfl, b4, b5, hb0⟩ := hrel
    by_cases hlt : k < L.length
    · obtain ⟨b1, o1, rfl, hb1, r1⟩ := hA (by omega)
      have g1 := range_below (range_part r1 (fAt_get hlt)) hb0 hb1
      rw [eFr_n] at g1
      clear hA r1
      have b6 := Blk.new wr 41 (fAt L k)
      have b4' := b4.alloc (.cells (FC (fAt L k)) 41)
      have b5' := b5.alloc (.cells (FC (fAt L k)) 41)
      have hb0' := hb0.alloc hb0.size (.cells (FC (fAt L k)) 41)
      have cU := fun w => unlike_any (parN L k) (fAt L k) (parN_lt hL k) (fAt_lt hL k) w
      have hn : unlikeF (parN L k) (fAt L k) = parN L (k + 1) := rfl
      rw [hn] at cU
      clear b4 b5 hb0 hn
      go_wp2_with (first
        | (refine wpList_load_at rfl 41 39 _ rfl _ _ rfl g1 Try.underlying41 (by kernel_rfl) ?_)
        | (refine wpList_store_new (f0 := zeroF) (f := fAt L k) rfl 41 _ _ rfl rfl rfl (by kernel_rfl) ?_; generalize wr.alloc (.cells (FC (fAt L k)) 41) = w2 at *; clear g1)
        | (refine wpList_load_fr rfl 41 39 _ rfl _ rfl b5' Try.underlying41 (by kernel_rfl) ?_)
        | (refine wpList_load_fr rfl 41 39 _ rfl _ rfl b6 Try.underlying41 (by kernel_rfl) ?_)
        | (go_at_call 54; refine (cU _).mono ?_; rintro e w3 ⟨rfl, hb⟩; replace b4' := b4'.below hb b4'.lt; replace b5' := b5'.below hb b5'.lt; replace hb0' := grown_below hb0' hb hb0'.size; clear hb)
        | (refine wpList_store_fr rfl 41 _ _ rfl _ rfl b5' rfl (by kernel_rfl) ?_))
      go_roundw
      case rel =>
        go_light
        exact ⟨k + 1, by omega, by go_num, b4'.setRowOther _ (by omega), b5'.setRow _, below_setRow hb0' (by omega) _⟩
      case measure => simp [intOf]; omega
    · have hkl : k = L.length := by omega
      subst hkl
      clear hA
      go_wp2_with (first | (refine wpList_load_fr rfl 41 39 _ rfl _ rfl b5 Try.underlying41 (by kernel_rfl) ?_) | (refine wpList_store_fr rfl 41 _ _ rfl _ rfl b4 rfl (by kernel_rfl) ?_))
      exact bodyPost_ret_fr (p := 2) (ty := 41) (e := 39) rfl rfl (b4.setRow _) Try.underlying41 (by kernel_rfl) rfl ⟨rfl, below_setRow hb0 (by omega) _⟩
set_option maxHeartbeats 1000000 in
theorem implParityOf_any (v : Value) (L : List (Nat → Nat)) (w : World) (hL : ltL L) (h : SlAt eFr w w.heap.size v L) :
    Calls Try.prog 26 #[v] w fun e w' => e = .returned (.tuple #[.agg (FC (ifC (okBC L) (parF L))), .int .i64 (okBC L)]) ∧ Below w.heap.size w w' := by
  have b2 := Blk.new w 41 zeroF
  have h0 := (Below.refl w.heap.size w).alloc (Nat.le_refl _) (.cells (FC zeroF) 41)
  have cO := fun w' (hb : Below w.heap.size w w') => implValidBook_any v L w' hL (h.later hb)
  have cP := fun w' (hb : Below w.heap.size w w') => parity_any v L w' hL (h.later hb)
  rw [FC_zero] at b2 h0
  clear h
  rcases okBC_cases L with ⟨ho, hc⟩ | ⟨ho, hc⟩
  · rw [hc]
    rw [ho] at cO
    have hv : ifC 1 (parF L) = zeroF := by simp [ifC]
    rw [hv]
    clear hv hc ho cP
    go_enter Try.func26, Try.ntmps26
    go_wp2_with (first | (go_at_call 59; refine (cO _ h0).mono ?_; rintro e w1 ⟨rfl, hb⟩; replace b2 := b2.below hb b2.lt; replace h0 := grown_below h0 hb h0.size; clear hb cO) | (refine wpList_store_fr (f := zeroF) rfl 41 _ _ rfl _ rfl b2 rfl (by kernel_rfl) ?_))
    exact bodyPost_ret_fr2 (p := 2) (u := 3) (ty := 41) (e := 39) rfl rfl (b2.setRow _) Try.underlying41 (by kernel_rfl) rfl ⟨rfl, below_setRow h0 (by omega) _⟩
  · rw [hc]
    rw [ho] at cO
    have hv : ifC 0 (parF L) = parF L := by simp [ifC]
    rw [hv]
    clear hv hc ho
    go_enter Try.func26, Try.ntmps26
    go_wp2_with (first | (go_at_call 59; refine (cO _ h0).mono ?_; rintro e w1 ⟨rfl, hb⟩; replace b2 := b2.below hb b2.lt; replace h0 := grown_below h0 hb h0.size; clear hb cO) | (go_at_call 60; refine (cP _ h0).mono ?_; rintro e w1 ⟨rfl, hb⟩; replace b2 := b2.below hb b2.lt; replace h0 := grown_below h0 hb h0.size; clear hb) | (refine wpList_store_fr rfl 41 _ _ rfl _ rfl b2 rfl (by kernel_rfl) ?_))
    exact bodyPost_ret_fr2 (p := 2) (u := 3) (ty := 41) (e := 39) rfl rfl (b2.setRow _) Try.underlying41 (by kernel_rfl) rfl ⟨rfl, below_setRow h0 (by omega) _⟩
end Go.Proofs.Ytjbjbdkmomkclaa
