/- MORPHS. impl: Frame.first. -/
import Derived.Test.YtennmnkjdchbhaaRows
import Derived.Test.YtennmnkjdchbhaaFr
import Derived.Test.YtennmnkjdchbhaaMorphM
namespace Go.Proofs.Ytennmnkjdchbhaa
set_option maxRecDepth 100000
open Go.RowKit
set_option linter.unusedVariables false
set_option linter.unusedSimpArgs false
theorem u16_and_pow {a x : Nat} (ha : a < 65536) (hx : x < 16) : bits .and .u16 (a : Int) (IntKind.u16.wrap ((2 : Int) ^ x)) = ((a &&& 2 ^ x : Nat) : Int) := by
  rw [u16_wrap_pow hx, u16_and_nat a _ ha (pow_lt_16 hx)]
/-- One bit of a row, and its worth. -/
theorem bit_div {a x : Nat} : (((a &&& 2 ^ x : Nat) : Int)) / 2 ^ x = ((if a.testBit x then 1 else 0 : Nat) : Int) := by
  rw [and_pow, cast_pow, ← Int.natCast_ediv]
  split
  · rw [Nat.div_self (Nat.two_pow_pos x)]
  · simp
set_option maxHeartbeats 1000000 in
theorem first_any (u : Nat → Nat) (n : Nat) (hu : ∀ k, u k < 65536) (hn : n ≤ 1000) (w : World) :
    Calls Try.prog 101 #[.agg (FC u), .int .i64 n] w fun e w' => e = .returned (.agg (FC (mk u n 144))) ∧ Below w.heap.size w w' := by
  obtain ⟨i0, hi0⟩ : ∃ i, Try.prog.info? 48 = some i := ⟨_, rfl⟩
  have b1 := ((Blk.new w 50 u).alloc (.cells (FC zeroF) 50)).alloc (.cells (FC zeroF) 50)
  have b2 := (Blk.new (w.alloc (.cells (FC u) 50)) 50 zeroF).alloc (.cells (FC zeroF) 50)
  have b3 := Blk.new ((w.alloc (.cells (FC u) 50)).alloc (.cells (FC zeroF) 50)) 50 zeroF
  rw [World.size_alloc] at b2
  rw [World.size_alloc, World.size_alloc] at b3
  have h0 := (((Below.refl w.heap.size w).alloc (Nat.le_refl _) (.cells (FC u) 50)).alloc (by simp) (.cells (FC zeroF) 50)).alloc (by simp; omega) (.cells (FC zeroF) 50)
  rw [FC_zero] at b1 b2 b3 h0
  go_enter Try.func101, Try.ntmps101
  go_wp2_with (refine wpList_load_fr rfl 50 48 _ rfl _ rfl b1 Try.underlying50 (by kernel_rfl) ?_)
  clear b1
  generalize (((w.alloc (.cells (FC u) 50)).alloc _).alloc _) = w1 at *
  go_loopw [1, 11] (fun c i wr => ∃ y : Nat, y ≤ 12 ∧ i = .int .i64 y ∧ c = .int .i64 ((n - rk u (12 * y) : Nat) : Int) ∧ Blk wr (w.heap.size + 1 + 1) 50 (mk u n (12 * y)) ∧ Blk wr (w.heap.size + 1) 50 zeroF ∧ Below w.heap.size w wr) (fun _ i _ => 12 - (intOf i).toNat)
  case atStart => exact ⟨0, by omega, rfl, rfl, b3, b2, h0⟩
  case round =>
    clear b2 b3 h0
    obtain ⟨y, hy, rfl, rfl, b3, b2, hb⟩ := hrel
    by_cases hlt : y < 12
    · have ix := fun w => run_index_fr (P := Try.prog) w u hlt Try.underlying50 (by kernel_rfl) hi0 (by kernel_rfl)
      have hd12 : decide ((y : Int) < 12) = true := decide_eq_true (by omega)
      clear hi0
      go_wp2
      obtain ⟨wo, rfl⟩ : ∃ wo : World, wo = wr := ⟨_, rfl⟩
      go_loopw [1, 8] (fun c i wr => ∃ q : Nat, q ≤ 12 ∧ i = .int .i64 q ∧ c = .int .i64 ((n - rk u (12 * y + q) : Nat) : Int) ∧ Blk wr (w.heap.size + 1 + 1) 50 (mk u n (12 * y + q)) ∧ Blk wr (w.heap.size + 1) 50 zeroF ∧ Below w.heap.size w wr) (fun _ i _ => 12 - (intOf i).toNat)
      case atStart => exact ⟨0, by omega, rfl, rfl, b3, b2, hb⟩
      case round =>
        clear b2 b3 hb
        obtain ⟨q, hq, rfl, rfl, b3, b2, hb⟩ := hrel
        by_cases hlq : q < 12
        · by_cases hr : rk u (12 * y + q) < n
          · have hst := mk_row hlq hr
            have hrk := rk_row (u := u) (y := y) hlq
            have hop := u16_and_pow (a := u y) (x := q) (hu y) (by omega)
            have hdv := bit_div (a := u y) (x := q)
            have hd16 : u y &&& 2 ^ q < 65536 := Nat.lt_of_le_of_lt Nat.and_le_left (hu y)
            have he1 : (if (u y).testBit q then 1 else 0 : Nat) ≤ 1 := by split <;> omega
            have c3 := b3.cell hlt
            have f3 := b3.free y
            have hor := u16_or_nat (mk u n (12 * y + q) y) (u y &&& 2 ^ q) (Nat.lt_trans (mk_lt _ _ _ _) (by decide)) hd16
            have b3' := b3.set hlt (mk u n (12 * y + q) y ||| (u y &&& 2 ^ q))
            have b2' := b2.other (a := ⟨w.heap.size + 1 + 1, y, none⟩) (.int .u16 ((mk u n (12 * y + q) y ||| (u y &&& 2 ^ q) : Nat) : Int)) (by show w.heap.size + 1 ≠ w.heap.size + 1 + 1; omega)
            have hb' := hb.setCell (p := ⟨w.heap.size + 1 + 1, y, none⟩) (by show w.heap.size ≤ w.heap.size + 1 + 1; omega) (.int .u16 ((mk u n (12 * y + q) y ||| (u y &&& 2 ^ q) : Nat) : Int))
            have HST := Lib.hid hst
            generalize hev : (if (u y).testBit q then 1 else 0 : Nat) = ev at *
            have hcn : n - rk u (12 * y + (q + 1)) = n - rk u (12 * y + q) - ev := by rw [hrk]; omega
            have hc0 : 0 < n - rk u (12 * y + q) := by omega
            have hc1 : n - rk u (12 * y + q) ≤ 1000 := by omega
            have HCN := Lib.hid hcn
            have B3 := Lib.hid b3'
            have B2 := Lib.hid b2'
            have HB := Lib.hid hb'
            clear hst hrk hev hcn b3 b2 hb b3' b2' hb' hr
            generalize n - rk u (12 * y + q) = c at *
            generalize u y &&& 2 ^ q = d at *
            generalize mk u n (12 * y + q) y = m at *
            go_wp2
            go_roundw
            case rel =>
              go_light
              refine ⟨q + 1, by omega, by go_num, ?_, ?_, B2.out, HB.out⟩
              · rw [HCN.out]; congr 1; omega
              · rw [HST.out]; exact B3.out
            case measure => simp [intOf]; omega
          · have hs : mk u n (12 * (y + 1)) = mk u n (12 * y + q) := mk_stop_to (by omega) (by omega)
            have hm := rk_mono u (12 * y + q) (12 - q)
            rw [show 12 * y + q + (12 - q) = 12 * (y + 1) by omega] at hm
            have hc0 : n - rk u (12 * y + q) = 0 := by omega
            have hc1 : n - rk u (12 * (y + 1)) = 0 := by omega
            rw [← hs] at b3
            rw [hc0]
            have HC := Lib.hid hc1
            clear hs hm hc0 hc1 hr
            go_wp2
            go_roundw
            case rel =>
              go_light
              exact ⟨y + 1, by omega, by go_num, by rw [HC.out]; rfl, b3, b2, hb⟩
            case measure => simp [intOf]; omega
        · have hq12 : q = 12 := by omega
          subst hq12
          rw [show 12 * y + 12 = 12 * (y + 1) by omega] at b3
          have he : n - rk u (12 * y + 12) = n - rk u (12 * (y + 1)) := by rw [show 12 * y + 12 = 12 * (y + 1) by omega]
          rw [he]
          clear he
          go_wp2
          go_roundw
          case rel =>
            go_light
            exact ⟨y + 1, by omega, by go_num, rfl, b3, b2, hb⟩
          case measure => simp [intOf]; omega
    · have h12 : y = 12 := by omega
      subst h12
      go_wp2_with (first | (refine wpList_load_fr rfl 50 48 _ rfl _ rfl b3 Try.underlying50 (by kernel_rfl) ?_) | (refine wpList_store_fr rfl 50 _ _ rfl _ rfl b2 rfl (by kernel_rfl) ?_))
      refine bodyPost_ret_fr (p := 4) (ty := 50) (e := 48) rfl rfl (b2.setRow _) Try.underlying50 (by kernel_rfl) rfl ⟨rfl, below_setRow hb (by omega) _⟩
end Go.Proofs.Ytennmnkjdchbhaa
