/- impl: Frame.dots and its closure: an iterator over all dots. -/
import Derived.Test.YtennmnkjdchbhacDoorRows
import Derived.Test.YtennmnkjdchbhacDoorFr
import Derived.Test.YtennmnkjdchbhacDoorTz
import Derived.Test.YtennmnkjdchbhacDoorRound
import Derived.WalkKit
import Derived.OwnWalkIn
import Derived.TacticsInMore
import Derived.LoopNIn
import Derived.LoopIn
namespace Go.Proofs.YtennmnkjdchbhacDoor
open Go.RowKit
set_option linter.unusedVariables false
attribute [local go_sem] Oper.semAt_some
def dotEnc (x : Nat × Nat) : Array Value := #[.agg #[.int .i8 (x.1 : Int), .int .i8 (x.2 : Int)]]
theorem hiB_dec {n m t : Nat} (h : LowBit (hiB n m) t) : hiB n (t + 1) < hiB n m := by
  rw [← hiB_next h]
  have h0 : hiB n m ≠ 0 := by intro e; rw [e] at h; simp [LowBit] at h
  have := @Nat.and_le_right (hiB n m) (hiB n m - 1)
  omega
theorem u16_dec {x : Nat} (h : x < 65536) (h0 : x ≠ 0) : IntKind.u16.wrap ((x : Int) - 1) = ((x - 1 : Nat) : Int) := by rw [IntKind.wrap_u16]; omega
theorem wrap8d {n : Nat} (h : n < 128) : IntKind.i8.wrap (n : Int) = n := by simp [IntKind.wrap, IntKind.bits, IntKind.signed]; omega
set_option maxRecDepth 100000 in
set_option maxHeartbeats 2000000 in
theorem dots1_in (n : Nat) (hn : 1 ≤ n) (l Bs n₀ : Nat) (f : Nat → Nat) (ho : okF f = true) (hf : ∀ k, f k < 65536) (J Jx : List (Nat × Nat) → World → Prop)
    (hY : ∀ pre x W, J pre W → pre ++ [x] <+: dots f → YieldAt Fence.wide (n - 1) Tryd.prog l (dotEnc x) W fun e W' =>
      (e = .returned (.bool true) ∧ J (pre ++ [x]) W' ∧ Below n₀ W W') ∨ (e = .returned (.bool false) ∧ Jx (pre ++ [x]) W'))
    (W : World) (hB : Blk W Bs 33 f) (hg : 0 < n₀) (hT : Tab W 0 DBC) (h0 : J [] W) :
    CallsIn Fence.wide n Tryd.prog 52 #[.func (.yield l) #[] #[], .pointer (some ⟨Bs, 0, none⟩)] W fun e W' => (∃ v, e = .returned v) ∧
      ((∃ ys, ys = dots f ∧ J ys W') ∨ (∃ pre, pre <+: dots f ∧ Jx pre W')) := by
  refine callsIn_of_wp Tryd.func52 rfl trivial ?_ rfl
  simp only [Tryd.ntmps52, List.size_toArray, List.length_cons, List.length_nil, Nat.reduceAdd, Nat.reduceSub, Array.replicate_succ, Array.replicate_zero, List.push_toArray, List.append_toArray, List.nil_append, List.cons_append]
  obtain ⟨i0, hi0⟩ : ∃ i, Tryd.prog.info? 28 = some i := ⟨_, rfl⟩
  gi_step
  gi_step
  refine wpIn_wide.2 ?_
  go_wp2_with (refine wpList_load_fr rfl 33 28 _ rfl _ rfl hB Tryd.underlying33 (by kernel_rfl) ?_)
  clear hB
  gi_wp2
  gi_loopw [7] (fun i wr => ∃ y : Nat, y ≤ 12 ∧ i = .int .i64 y ∧ J (dotsTo f (12 * y)) wr ∧ Below n₀ W wr) (fun i _ => 12 - (intOf i).toNat)
  case atStart => exact ⟨0, by omega, rfl, h0, Below.refl _ _⟩
  case round =>
    obtain ⟨y, hy, rfl, hJs, hnx⟩ := hrel
    by_cases hlt : y < 12
    · have hfy := okF_iff.1 ho y hlt
      have ix : ∀ w, (Instr.index 33 (.agg (FC f)) (.int .i64 (y : Int))).run Tryd.prog w = .ok (.int .u16 (f y)) w := fun w => run_index_fr w f hlt Tryd.underlying33 (by kernel_rfl) hi0 (by kernel_rfl)
      clear hi0
      have hd12 : decide ((y : Int) < 12) = true := by simpa using (show (y : Int) < 12 by omega)
      gi_wp2
      clear ix
      gi_loopw [4] (fun v wx => ∃ m : Nat, m ≤ 12 ∧ v = .int .u16 (hiB (f y) m : Nat) ∧ J (dotsTo f (12 * y + m)) wx ∧ Below n₀ W wx) (fun v _ => (intOf v).toNat)
      case atStart => exact ⟨0, by omega, by rw [hiB_zero], hJs, hnx⟩
      case round =>
        clear hJs hnx
        obtain ⟨m, hm, rfl, hJm, hnm⟩ := hrel
        have hle : hiB (f y) m < 65536 := Nat.lt_of_le_of_lt (hiB_le _ _) (hf y)
        by_cases h0' : hiB (f y) m = 0
        · have HE := Lib.hid (dotsTo_row_end hm h0')
          rw [h0']
          clear h0' hle
          gi_wp2
          go_roundw
          case rel => exact ⟨y + 1, by omega, by go_num, by rw [HE.out]; exact hJm, hnm⟩
          case measure => simp [intOf]; omega
        · obtain ⟨t, ht16, ht⟩ := lowBit_ex (m := 16) (n := hiB (f y) m) (by omega) h0'
          have hn1 := dotsTo_next hfy ht
          have hlen : dotsTo f (12 * y + m) ++ [(t, y)] <+: dots f := by rw [← hn1.2.2]; exact dotsTo_prefix f (by omega)
          obtain ⟨fn, tmps, assign, body, hyy, hR⟩ := hY _ (t, y) wr hJm hlen
          simp only [dotEnc] at hyy
          have e0 : ((hiB (f y) m : Nat) : Int) = 0 ↔ False := by simp; omega
          have e1 : ((hiB (f y) m : Nat) == (0 : Int)) = false := by simp; omega
          have k1 : IntKind.i8.wrap (t : Int) = t := wrap8d (by omega)
          have k2 : IntKind.i8.wrap (y : Int) = y := wrap8d (by omega)
          have k3 := u16_dec hle h0'
          have k4 : bits .and .u16 ((hiB (f y) m : Nat) : Int) ((hiB (f y) m - 1 : Nat) : Int) = ((hiB (f y) (t + 1) : Nat) : Int) := by rw [u16_and_nat _ _ hle (by omega), hiB_next ht]
          have hTx := (hT.below hnm hg)
          have cT := tz16_any (hiB (f y) m) t hle ht wr hTx
          gi_wp2_with (refine ⟨trivial, ?_⟩; gi_at_call 53; refine (callsIn_wide.2 cT).mono ?_; rintro e w' ⟨rfl, rfl⟩)
          refine hR.mono ?_
          rintro e W3 (⟨rfl, hJ3, hk3⟩ | ⟨rfl, hJx3⟩)
          · gi_wp2
            go_roundw
            case rel => exact ⟨t + 1, by omega, rfl, by rw [hn1.2.2]; exact hJ3, hnm.trans hk3⟩
            case measure =>
              have := hiB_dec ht
              simp [intOf]; omega
          · gi_wp2
            refine bodyPost_ret (results_none rfl _ _ _) rfl ?_
            exact ⟨⟨_, rfl⟩, .inr ⟨_, hlen, hJx3⟩⟩
    · obtain rfl : y = 12 := by omega
      gi_wp2
      go_end0
      exact ⟨⟨_, rfl⟩, .inl ⟨_, rfl, hJs⟩⟩
set_option maxHeartbeats 1000000 in
/-- Frame.dots: the frame is boxed; the function value captures the box. -/
theorem dotsI_in (n : Nat) (f : Nat → Nat) (w : World) :
    CallsIn Fence.wide n Tryd.prog 36 #[.agg (FC f)] w fun e w' => e = .returned (.func (.func 52) #[] #[.pointer (some ⟨w.heap.size, 0, none⟩)]) ∧ w' = w.alloc (.cells (FC f) 33) := by
  refine callsIn_of_wp Tryd.func36 rfl trivial ?_ rfl
  simp only [Tryd.ntmps36, List.size_toArray, List.length_cons, List.length_nil, Nat.reduceAdd, Nat.reduceSub, Array.replicate_succ, Array.replicate_zero, List.push_toArray, List.append_toArray, List.nil_append, List.cons_append]
  gi_wp2
  go_ret
  exact ⟨rfl, rfl⟩
/-- It hands back an iterator over all dots. -/
theorem dots_stops (n : Nat) (hn : 1 ≤ n) (Bs n₀ : Nat) (f : Nat → Nat) (ho : okF f = true) (hf : ∀ k, f k < 65536) (w : World) (hB : Blk w Bs 33 f) (hn₀ : n₀ ≤ w.heap.size) (hg : 0 < n₀) (hT : Tab w 0 DBC) :
    StopsL n Tryd.prog 52 #[.pointer (some ⟨Bs, 0, none⟩)] dotEnc n₀ (dots f) w := fun l J Jx W hW hY h0 =>
  dots1_in n hn l Bs n₀ f ho hf J Jx hY W (hB.below hW hB.lt) hg (hT.below hW (Nat.lt_of_lt_of_le hg hn₀)) h0
end Go.Proofs.YtennmnkjdchbhacDoor
