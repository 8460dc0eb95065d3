/- spec: l01Ok, l01Differ at whatever address; l02Ok, ValidBook, l02Same, SameBook, l02Jumps, JumpsOf, l02Sum, AllJumps, LoopJumps. -/
import Derived.Test.YtennmnkjdchbhabDoorRows
import Derived.Test.YtennmnkjdchbhabDoorS1
import Derived.Test.YtennmnkjdchbhabDoorCount
import Derived.Test.YtennmnkjdchbhabDoorLBook
import Derived.Test.YtennmnkjdchbhabDoorLI64
import Derived.Test.YtennmnkjdchbhabDoorQuiet2
namespace Go.Proofs.YtennmnkjdchbhabDoor
set_option maxRecDepth 100000
open Go.RowKit
set_option linter.unusedVariables false
set_option maxHeartbeats 400000 in
theorem okAt_any (b o : Nat) (f : Nat → Nat) (w : World) (hB : w.rangeAt b o (FC f).toList) :
    Calls Tryd.prog 58 #[.pointer (some ⟨b, o, none⟩)] w fun e w' => e = .returned (.bool (okF f)) ∧ w = w' := by
  go_enter Tryd.func58, Tryd.ntmps58
  go_wp2
  go_loop [3] (fun i => ∃ k : Nat, k ≤ 12 ∧ i = .int .i64 k ∧ (∀ j, j < k → f j ≤ 4095)) (fun i => 12 - (intOf i).toNat)
  case atStart => exact ⟨0, by omega, rfl, by omega⟩
  case round =>
    obtain ⟨k, hk, rfl, he⟩ := hrel
    have HE := Lib.hid he
    clear he
    by_cases hlt : k < 12
    · have c1 := fr_cell hB hlt
      by_cases hf : f k ≤ 4095
      · go_wp2
        go_round
        case rel =>
          go_light
          refine ⟨k + 1, by omega, by go_num, ?_⟩
          intro j hj
          rcases Nat.lt_succ_iff_lt_or_eq.1 hj with h | rfl
          · exact HE.out j h
          · exact hf
        case measure => simp [intOf]; omega
      · go_wp2
        go_ret
        exact ⟨ret_bool (okF_false.2 ⟨k, hlt, by omega⟩).symm, rfl⟩
    · go_wp2
      go_ret
      have h12 : k = 12 := by omega
      subst h12
      exact ⟨ret_bool (okF_iff.2 HE.out).symm, rfl⟩
set_option maxHeartbeats 1000000 in
theorem differAt_any (b1 o1 b2 o2 : Nat) (f g : Nat → Nat) (hf : ∀ k, f k < 65536) (hg : ∀ k, g k < 65536) (w : World) (hA : w.rangeAt b1 o1 (FC f).toList) (l1 : b1 < w.heap.size) (hB : w.rangeAt b2 o2 (FC g).toList) (l2 : b2 < w.heap.size) :
    Calls Tryd.prog 86 #[.pointer (some ⟨b1, o1, none⟩), .pointer (some ⟨b2, o2, none⟩)] w fun e' w' => e' = .returned (.int .i64 (dots (unlikeF f g)).length) ∧ Below w.heap.size w w' := by
  have b4 := Blk.new w 38 zeroF
  have h0 := (Below.refl w.heap.size w).alloc (Nat.le_refl _) (.cells (FC zeroF) 38)
  rw [FC_zero] at b4 h0
  go_enter Tryd.func86, Tryd.ntmps86
  go_wp2
  generalize (w.alloc _) = w1 at *
  go_loopw [6] (fun i wr => ∃ k : Nat, k ≤ 12 ∧ i = .int .i64 k ∧ Blk wr (w.heap.size) 38 (fun y => if y < k then unlikeF f g y else 0) ∧ Below w.heap.size w wr) (fun i _ => 12 - (intOf i).toNat)
  case atStart => exact ⟨0, by omega, rfl, b4.ext (by simp [zeroF]), h0⟩
  case round =>
    obtain ⟨k, hk, rfl, b4, hb⟩ := hrel
    by_cases hlt : k < 12
    · have c1 := fr_cell (range_below hA hb l1) hlt
      have c2 := fr_cell (range_below hB hb l2) hlt
      have c4 := b4.cell hlt
      have f4 := b4.free k
      have hop := u16_xor_nat (f k) (g k) (hf k) (hg k)
      go_wp2
      go_region
      go_wp2
      go_roundw
      case rel =>
        go_light
        refine ⟨k + 1, by omega, by go_num, ((b4.set hlt _).ext ?_).drew, (hb.setCell (p := ⟨w.heap.size, k, none⟩) (by show w.heap.size ≤ w.heap.size; omega) _).drew⟩
        intro j hj
        unfold upd
        by_cases e : j = k
        · subst e; simp [unlikeF]
        · rw [if_neg e]; simp only [show j < k + 1 ↔ j < k by omega]
      case measure => simp [intOf]; omega
    · have h12 : k = 12 := by omega
      subst h12
      replace b4 := b4.ext (f' := unlikeF f g) (fun j hj => by rw [if_pos (by omega)])
      go_wp2_with (go_at_call 106; refine (l01Count_any _ _ _ (unlikeF_lt hf hg) b4).mono ?_; rintro e' w2 ⟨rfl, hb1⟩)
      go_ret
      exact ⟨rfl, grown_below hb hb1 hb.size⟩
theorem unlikeF_ok' {f g : Nat → Nat} (hf : okF f = true) (hg : okF g = true) : okF (unlikeF f g) = true := okF_iff.2 fun y hy => by
  have h1 := okF_iff.1 hf y hy
  have h2 := okF_iff.1 hg y hy
  have : unlikeF f g y < 2 ^ 12 := Nat.xor_lt_two_pow (by omega) (by omega)
  omega
/-- .. of valid frames: by how many dots they differ. -/
theorem differAt_ok (b1 o1 b2 o2 : Nat) (f g : Nat → Nat) (hf : ∀ k, f k < 65536) (hg : ∀ k, g k < 65536) (of : okF f = true) (og : okF g = true) (w : World) (hA : w.rangeAt b1 o1 (FC f).toList) (l1 : b1 < w.heap.size) (hB : w.rangeAt b2 o2 (FC g).toList) (l2 : b2 < w.heap.size) :
    Calls Tryd.prog 86 #[.pointer (some ⟨b1, o1, none⟩), .pointer (some ⟨b2, o2, none⟩)] w fun e' w' => e' = .returned (.int .i64 (difN f g)) ∧ Below w.heap.size w w' := by
  have := differAt_any b1 o1 b2 o2 f g hf hg w hA l1 hB l2
  rw [length_dots _ (unlikeF_ok' of og)] at this
  exact this
theorem infoI64 : (Tryd.prog.info? 2).map (fun i => (i.zero, i.size, i.bytes)) = some (some (.int .i64 0), (eI .i64).n, 8) := by kernel_rfl
end Go.Proofs.YtennmnkjdchbhabDoor
