/- impl: around, rolledRow, Frame.rolled, RollFrame. -/
import Derived.Test.YtemeamamdddfnaaRows
import Derived.Test.YtemeamamdddfnaaIMoveFrame
namespace Go.Proofs.Ytemeamamdddfnaa
open Go.RowKit
set_option linter.unusedVariables false
theorem ret_int' {k : IntKind} {a b : Int} {p : Prop} (h : a = b) (hp : p) : Ending.returned (.int k a) = .returned (.int k b) ∧ p := ⟨by rw [h], hp⟩
theorem around_any (n : Int) (h1 : -1000 ≤ n) (h2 : n ≤ 1000) (w : World) :
    Calls Try.prog 62 #[.int .i64 n] w fun e w' => e = .returned (.int .i64 (n % 12)) ∧ w = w' := by
  have ht : -12 < n.tmod 12 ∧ n.tmod 12 < 12 := by
    have key := Int.tmod_eq_emod (a := n) (b := 12)
    split at key <;> omega
  have ht1 := ht.1
  have ht2 := ht.2
  have he : (n.tmod 12 + 12) % 12 = n % 12 := by
    have := Int.tmod_eq_emod (a := n) (b := 12)
    split at this <;> omega
  have HE := Lib.hid he
  clear he ht
  go_enter Try.func62, Try.ntmps62
  go_wp2
  go_ret
  exact ⟨ret_int HE.out, rfl⟩
set_option maxHeartbeats 400000 in
theorem rolledRow_any (r : Nat) (e : Int) (hr : r ≤ 4095) (h1 : 0 ≤ e) (h2 : e < 12) (w : World) :
    Calls Try.prog 61 #[.int .u16 r, .int .i64 e] w fun e' w' => e' = .returned (.int .u16 (rolledRow r e)) ∧ w = w' := by
  have hop := u16_or_nat (movedRow r e) (movedRow r (e - 12)) (movedRow_lt (by omega) _) (movedRow_lt (by omega) _)
  go_enter Try.func61, Try.ntmps61
  go_wp2_with (go_at_call 60; refine (movedRow_any _ _ hr (by omega) (by omega) _).mono ?_; rintro e' w' ⟨rfl, rfl⟩)
  go_ret
  exact ⟨rfl, rfl⟩
set_option maxHeartbeats 1000000 in
theorem rolled_any (f : Nat → Nat) (e s : Int) (ho : okF f = true) (e1 : -12 ≤ e) (e2 : e ≤ 12) (s1 : -12 ≤ s) (s2 : s ≤ 12) (w : World) :
    Calls Try.prog 56 #[.agg (FC f), .int .i64 e, .int .i64 s] w fun e' w' => e' = .returned (.agg (FC (rolledI f e s 12))) ∧ Below w.heap.size w w' := by
  obtain ⟨i0, hi0⟩ : ∃ i, Try.prog.info? 24 = some i := ⟨_, rfl⟩
  have b1 := ((Blk.new w 27 f).alloc (.cells (FC zeroF) 27)).alloc (.cells (FC zeroF) 27)
  have b2 := (Blk.new (w.alloc (.cells (FC f) 27)) 27 zeroF).alloc (.cells (FC zeroF) 27)
  have b3 := Blk.new ((w.alloc (.cells (FC f) 27)).alloc (.cells (FC zeroF) 27)) 27 zeroF
  have h0 := (((Below.refl w.heap.size w).alloc (Nat.le_refl _) (.cells (FC f) 27)).alloc (by simp) (.cells (FC zeroF) 27)).alloc (by simp; omega) (.cells (FC zeroF) 27)
  rw [World.size_alloc] at b2
  rw [World.size_alloc, World.size_alloc] at b3
  rw [FC_zero] at b1 b2 b3 h0
  go_enter Try.func56, Try.ntmps56
  go_wp2_with (refine wpList_load_fr rfl 27 24 _ rfl _ rfl b1 Try.underlying27 (by kernel_rfl) ?_)
  clear b1
  generalize (((w.alloc (.cells (FC f) 27)).alloc _).alloc _) = w1 at *
  go_loopw [11] (fun i wr => ∃ k : Nat, k ≤ 12 ∧ i = .int .i64 k ∧ Blk wr (w.heap.size + 1) 27 zeroF ∧ Blk wr (w.heap.size + 1 + 1) 27 (rolledI f e s k) ∧ Below w.heap.size w wr) (fun i _ => 12 - (intOf i).toNat)
  case atStart => exact ⟨0, by omega, rfl, b2, b3.ext (fun t ht => by unfold rolledI zeroF; rw [if_neg (by omega)]), h0⟩
  case round =>
    obtain ⟨k, hk, rfl, b2, b3, hb⟩ := hrel
    by_cases hlt : k < 12
    · have ix := fun w => run_index_fr (P := Try.prog) w f hlt Try.underlying27 (by kernel_rfl) hi0 (by kernel_rfl)
      have hfk := okF_iff.1 ho k hlt
      have hstep : ∀ t : Nat, t < 12 → (t : Int) ≠ ((k : Int) + s) % 12 → rolledI f e s ((k + 1 : Nat) : Int) t = rolledI f e s (k : Int) t := fun t ht hne => by
        unfold rolledI
        by_cases h : ((t : Int) - s) % 12 < (k : Int)
        · rw [if_pos h, if_pos (by omega)]
        · rw [if_neg h, if_neg (by omega)]
      have HS := Lib.hid hstep
      clear hi0 hstep
      obtain ⟨t, ht⟩ : ∃ t : Nat, ((k : Int) + s) % 12 = (t : Int) := ⟨(((k : Int) + s) % 12).toNat, by omega⟩
      have htl : t < 12 := by omega
      have hnew : rolledI f e s ((k + 1 : Nat) : Int) t = rolledRow (f k) (e % 12) := by
        unfold rolledI
        rw [if_pos (by omega), show (((t : Int) - s) % 12).toNat = k by omega]
      have HN := Lib.hid hnew
      have HT := Lib.hid ht
      have f3 := b3.free t
      have c3 := b3.cell htl
      have cR := fun w => rolledRow_any (f k) (e % 12) hfk (by omega) (by omega) w
      have HR := Lib.hid cR
      have cA : ∀ w, Calls Try.prog 62 #[.int .i64 ((k : Int) + s)] w fun e w' => e = .returned (.int .i64 (t : Int)) ∧ w = w' := fun w => by rw [← ht]; exact around_any _ (by omega) (by omega) w
      have HA := Lib.hid cA
      have HB := Lib.hid (fun w => around_any e (by omega) (by omega) w)
      clear hnew ht cR cA
      go_wp2_with fail
      refine (HA.out _).mono ?_
      rintro e' w' ⟨rfl, rfl⟩
      go_wp2_with fail
      refine (HB.out _).mono ?_
      rintro e' w' ⟨rfl, rfl⟩
      go_wp2_with fail
      refine (HR.out _).mono ?_
      rintro e' w' ⟨rfl, rfl⟩
      go_wp2
      go_roundw
      case rel =>
        go_light
        refine ⟨k + 1, by omega, by go_num, b2.other (a := ⟨w.heap.size + 1 + 1, t, none⟩) _ (by show w.heap.size + 1 ≠ w.heap.size + 1 + 1; omega), (b3.set htl _).ext ?_, hb.setCell (p := ⟨w.heap.size + 1 + 1, t, none⟩) (by show w.heap.size ≤ w.heap.size + 1 + 1; omega) _⟩
        intro j hj
        unfold upd
        by_cases e' : j = t
        · subst e'; rw [if_pos rfl, HN.out]
        · rw [if_neg e', HS.out j hj (by rw [HT.out]; omega)]
      case measure => simp [intOf]; omega
    · have h12 : k = 12 := by omega
      subst h12
      go_wp2_with (first | (refine wpList_load_fr rfl 27 24 _ rfl _ rfl b3 Try.underlying27 (by kernel_rfl) ?_) | (refine wpList_store_fr rfl 27 _ _ rfl _ rfl b2 rfl (by kernel_rfl) ?_))
      exact bodyPost_ret_fr (p := 6) (ty := 27) (e := 24) rfl rfl (b2.setRow _) Try.underlying27 (by kernel_rfl) rfl ⟨rfl, below_setRow hb (by omega) _⟩
set_option maxHeartbeats 1000000 in
theorem implRollFrame_any (f : Nat → Nat) (e s : Int) (hf : ∀ k, f k < 65536) (w : World) :
    Calls Try.prog 31 #[.agg (FC f), .int .i64 e, .int .i64 s] w fun e' w' => e' = .returned (.tuple #[.agg (FC (ifC (wayC f e s) (rolledI f e s 12))), .int .i64 (wayC f e s)]) ∧ Below w.heap.size w w' := by
  have b1 := (Blk.new w 27 f).alloc (.cells (FC zeroF) 27)
  have b2 := Blk.new (w.alloc (.cells (FC f) 27)) 27 zeroF
  rw [World.size_alloc] at b2
  have h0 := ((Below.refl w.heap.size w).alloc (Nat.le_refl _) (.cells (FC f) 27)).alloc (by simp) (.cells (FC zeroF) 27)
  rw [FC_zero] at b1 b2 h0
  go_enter Try.func31, Try.ntmps31
  go_wp2_with (first | (refine wpList_load_fr rfl 27 24 _ rfl _ rfl b1 Try.underlying27 (by kernel_rfl) ?_) | (go_at_call 53; refine (moveBy_any 56 f (rolledI f e s 12) e s hf (fun _ => by kernel_rfl) (fun ho e1 e2 s1 s2 w => rolled_any f e s ho e1 e2 s1 s2 w) _).mono ?_; rintro e' w1 ⟨rfl, hb1⟩; replace b1 := b1.below hb1 b1.lt; replace b2 := b2.below hb1 b2.lt; replace h0 := grown_below h0 hb1 h0.size; clear hb1) | (refine wpList_store_fr rfl 27 _ _ rfl _ rfl b2 rfl (by kernel_rfl) ?_))
  exact bodyPost_ret_fr2 (p := 6) (u := 7) (ty := 27) (e := 24) rfl rfl (b2.setRow _) Try.underlying27 (by kernel_rfl) rfl ⟨rfl, below_setRow h0 (by omega) _⟩
end Go.Proofs.Ytemeamamdddfnaa
