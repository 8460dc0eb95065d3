/- impl: movedRow, Frame.moved, isMove. -/
import Derived.Test.YtjbjbdkmomkclabRows
import Derived.Test.YtjbjbdkmomkclabIValid
import Derived.Test.YtjbjbdkmomkclabPut
namespace Go.Proofs.Ytjbjbdkmomkclab
set_option maxRecDepth 100000
open Go.RowKit
set_option linter.unusedVariables false
theorem u16_shl {r k : Nat} (hr : r ≤ 4095) (hk : k ≤ 12) : bits .and .u16 (IntKind.u16.wrap ((r : Int) * 2 ^ k)) 4095 = ((r * 2 ^ k % 4096 : Nat) : Int) := by
  have h1 : ((r : Int) * 2 ^ k) = ((r * 2 ^ k : Nat) : Int) := by rw [Int.natCast_mul, Int.natCast_pow]; rfl
  have h2 : IntKind.u16.wrap ((r * 2 ^ k : Nat) : Int) = ((r * 2 ^ k % 65536 : Nat) : Int) := by rw [IntKind.wrap_u16, Int.natCast_emod]; rfl
  have h3 := u16_and_nat (r * 2 ^ k % 65536) 4095 (Nat.mod_lt _ (by decide)) (by decide)
  rw [h1, h2, show (4095 : Int) = ((4095 : Nat) : Int) from rfl, h3, show 4095 = 2 ^ 12 - 1 by rfl, Nat.and_two_pow_sub_one_eq_mod]
  congr 1
  omega
theorem isMove_any (n : Int) (w : World) :
    Calls Try.prog 119 #[.int .i64 n] w fun e w' => e = .returned (.bool (inB n (-12) 12)) ∧ w = w' := by
  by_cases h1 : -12 ≤ n
  · by_cases h2 : n ≤ 12
    · go_enter Try.func119, Try.ntmps119
      go_wp2
      go_ret
      exact ⟨ret_bool (by rw [inB_iff.2 ⟨h1, h2⟩]), rfl⟩
    · go_enter Try.func119, Try.ntmps119
      go_wp2
      go_ret
      exact ⟨ret_bool (by rw [inB_false.2 (by omega)]), rfl⟩
  · go_enter Try.func119, Try.ntmps119
    go_wp2
    go_ret
    exact ⟨ret_bool (by rw [inB_false.2 (by omega)]), rfl⟩
set_option maxHeartbeats 400000 in
theorem movedRow_any (r : Nat) (e : Int) (hr : r ≤ 4095) (h1 : -12 ≤ e) (h2 : e ≤ 12) (w : World) :
    Calls Try.prog 138 #[.int .u16 r, .int .i64 e] w fun e' w' => e' = .returned (.int .u16 (movedRow r e)) ∧ w = w' := by
  by_cases he : e < 0
  · obtain ⟨k, hk⟩ : ∃ k : Nat, e = -(k : Int) := ⟨(-e).toNat, by omega⟩
    subst hk
    have hv : movedRow r (-(k : Int)) = r / 2 ^ k := by
      unfold movedRow; rw [if_pos he, show (-(-(k : Int))).toNat = k by omega]
    have HV := Lib.hid hv
    clear hv
    go_enter Try.func138, Try.ntmps138
    go_wp2
    go_ret
    exact ⟨ret_int (by rw [HV.out]; simp), rfl⟩
  · obtain ⟨k, hk⟩ : ∃ k : Nat, e = (k : Int) := ⟨e.toNat, by omega⟩
    subst hk
    have hv : movedRow r (k : Int) = r * 2 ^ k % 4096 := by
      unfold movedRow; rw [if_neg he, Int.toNat_natCast]
    have HV := Lib.hid hv
    clear hv
    have hop := u16_shl hr (show k ≤ 12 by omega)
    go_enter Try.func138, Try.ntmps138
    go_wp2
    go_ret
    exact ⟨ret_int (by rw [HV.out]; simp), rfl⟩
set_option maxHeartbeats 1000000 in
theorem moved_any (f : Nat → Nat) (e s : Int) (ho : okF f = true) (e1 : -12 ≤ e) (e2 : e ≤ 12) (s1 : -12 ≤ s) (s2 : s ≤ 12) (w : World) :
    Calls Try.prog 136 #[.agg (FC f), .int .i64 e, .int .i64 s] w fun e' w' => e' = .returned (.agg (FC (movedI f e s 12))) ∧ Below w.heap.size w w' := by
  obtain ⟨i0, hi0⟩ : ∃ i, Try.prog.info? 57 = some i := ⟨_, rfl⟩
  have b1 := ((Blk.new w 65 f).alloc (.cells (FC zeroF) 65)).alloc (.cells (FC zeroF) 65)
  have b2 := (Blk.new (w.alloc (.cells (FC f) 65)) 65 zeroF).alloc (.cells (FC zeroF) 65)
  have b3 := Blk.new ((w.alloc (.cells (FC f) 65)).alloc (.cells (FC zeroF) 65)) 65 zeroF
  have h0 := (((Below.refl w.heap.size w).alloc (Nat.le_refl _) (.cells (FC f) 65)).alloc (by simp) (.cells (FC zeroF) 65)).alloc (by simp; omega) (.cells (FC zeroF) 65)
  rw [World.size_alloc] at b2
  rw [World.size_alloc, World.size_alloc] at b3
  rw [FC_zero] at b1 b2 b3 h0
  go_enter Try.func136, Try.ntmps136
  go_wp2_with (refine wpList_load_fr rfl 65 57 _ rfl _ rfl b1 Try.underlying65 (by kernel_rfl) ?_)
  clear b1
  generalize (((w.alloc (.cells (FC f) 65)).alloc _).alloc _) = w1 at *
  go_loopw [12] (fun i wr => ∃ k : Nat, k ≤ 12 ∧ i = .int .i64 k ∧ Blk wr (w.heap.size + 1) 65 zeroF ∧ Blk wr (w.heap.size + 1 + 1) 65 (movedI f e s k) ∧ Below w.heap.size w wr) (fun i _ => 12 - (intOf i).toNat)
  case atStart => exact ⟨0, by omega, rfl, b2, b3.ext (fun t ht => by unfold movedI zeroF; rw [if_neg (by omega)]), h0⟩
  case round =>
    obtain ⟨k, hk, rfl, b2, b3, hb⟩ := hrel
    by_cases hlt : k < 12
    · have ix := fun w => run_index_fr (P := Try.prog) w f hlt Try.underlying65 (by kernel_rfl) hi0 (by kernel_rfl)
      have hfk := okF_iff.1 ho k hlt
      have hstep : ∀ t : Nat, (t : Int) ≠ (k : Int) + s → movedI f e s ((k + 1 : Nat) : Int) t = movedI f e s (k : Int) t := fun t ht => by
        unfold movedI
        by_cases h : 0 ≤ (t : Int) - s ∧ (t : Int) - s < (k : Int)
        · rw [if_pos h, if_pos (by omega)]
        · rw [if_neg h, if_neg (by omega)]
      have HS := Lib.hid hstep
      clear hi0 hstep
      by_cases hr : 0 ≤ (k : Int) + s
      · by_cases hr2 : (k : Int) + s < 12
        · obtain ⟨t, ht⟩ : ∃ t : Nat, (k : Int) + s = (t : Int) := ⟨((k : Int) + s).toNat, by omega⟩
          have htl : t < 12 := by omega
          have hnew : movedI f e s ((k + 1 : Nat) : Int) t = movedRow (f k) e := by
            unfold movedI
            rw [if_pos (by omega), show ((t : Int) - s).toNat = k by omega]
          have HN := Lib.hid hnew
          have HT := Lib.hid ht
          clear hnew
          have f3 := b3.free t
          have c3 := b3.cell htl
          go_wp2_with (go_at_call 138; refine (movedRow_any _ _ hfk e1 e2 _).mono ?_; rintro e' w' ⟨rfl, rfl⟩)
          go_roundw
          case rel =>
            go_light
            refine ⟨k + 1, by omega, by go_num, b2.other (a := ⟨w.heap.size + 1 + 1, t, none⟩) _ (by show w.heap.size + 1 ≠ w.heap.size + 1 + 1; omega), (b3.set htl _).ext ?_, hb.setCell (p := ⟨w.heap.size + 1 + 1, t, none⟩) (by show w.heap.size ≤ w.heap.size + 1 + 1; omega) _⟩
            intro j hj
            unfold upd
            by_cases e' : j = t
            · subst e'; rw [if_pos rfl, HN.out]
            · rw [if_neg e', HS.out j (by rw [HT.out]; omega)]
          case measure => simp [intOf]; omega
        · go_wp2
          go_roundw
          case rel =>
            go_light
            exact ⟨k + 1, by omega, by go_num, b2, b3.ext (fun j hj => (HS.out j (by omega)).symm), hb⟩
          case measure => simp [intOf]; omega
      · go_wp2
        go_roundw
        case rel =>
          go_light
          exact ⟨k + 1, by omega, by go_num, b2, b3.ext (fun j hj => (HS.out j (by omega)).symm), hb⟩
        case measure => simp [intOf]; omega
    · have h12 : k = 12 := by omega
      subst h12
      go_wp2_with (first | (refine wpList_load_fr rfl 65 57 _ rfl _ rfl b3 Try.underlying65 (by kernel_rfl) ?_) | (refine wpList_store_fr rfl 65 _ _ rfl _ rfl b2 rfl (by kernel_rfl) ?_))
      exact bodyPost_ret_fr (p := 6) (ty := 65) (e := 57) rfl rfl (b2.setRow _) Try.underlying65 (by kernel_rfl) rfl ⟨rfl, below_setRow hb (by omega) _⟩
end Go.Proofs.Ytjbjbdkmomkclab
