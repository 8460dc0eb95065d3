/- spec: TurnFrame. -/
import Derived.Test.YtennmnkjdchbhacDoorRows
import Derived.Test.YtennmnkjdchbhacDoorSMove
import Derived.Test.YtennmnkjdchbhacDoorSInvert
import Derived.StillTailTactics
namespace Go.Proofs.YtennmnkjdchbhacDoor
set_option maxRecDepth 100000
open Go.RowKit
set_option linter.unusedVariables false
def turnS (f : Nat → Nat) : Nat → Nat := putAll ((dots f).map fun d => (11 - (d.2 : Int), (d.1 : Int))) zeroF
set_option maxHeartbeats 1000000 in
theorem specTurnFrame_any (f : Nat → Nat) (hf : ∀ k, f k < 65536) (w : World) :
    Calls Tryd.prog 19 #[.agg (FC f)] w fun e' w' => e' = .returned (.tuple #[.agg (FC (ifC (okC f) (turnS f))), .int .i64 (okC f)]) ∧ Below w.heap.size w w' := by
  have b1 := (Blk.new w 33 f).alloc (.cells (FC zeroF) 33)
  have b2 := Blk.new (w.alloc (.cells (FC f) 33)) 33 zeroF
  rw [World.size_alloc] at b2
  have h0 := ((Below.refl w.heap.size w).alloc (Nat.le_refl _) (.cells (FC f) 33)).alloc (by simp) (.cells (FC zeroF) 33)
  rw [FC_zero] at b1 b2 h0
  rcases okC_cases f with ⟨ho, ha⟩ | ⟨ho, ha⟩
  · have hv : ifC 1 (turnS f) = zeroF := by simp [ifC]
    go_enter Tryd.func19, Tryd.ntmps19
    go_wp2_with fail
    generalize ((w.alloc _).alloc _) = w1 at *
    refine (ok_any _ f _ b1).mono ?_
    rintro e' w' ⟨rfl, rfl⟩
    go_wp2_with (refine wpList_store_fr (f := zeroF) rfl 33 _ _ rfl _ rfl b2 rfl (by kernel_rfl) ?_)
    exact bodyPost_ret_fr2 (p := 2) (u := 3) (ty := 33) (e := 28) rfl rfl (b2.setRow _) Tryd.underlying33 (by kernel_rfl) rfl ⟨by rw [ha, hv]; rfl, below_setRow h0 (by omega) _⟩
  · have hv : ifC 0 (turnS f) = turnS f := by simp [ifC]
    go_enter Tryd.func19, Tryd.ntmps19
    go_wp2_with fail
    generalize ((w.alloc _).alloc _) = w1 at *
    refine (ok_any _ f _ b1).mono ?_
    rintro e' w' ⟨rfl, rfl⟩
    have HW := Lib.hid ha
    go_wp2_with fail
    clear ha
    have b3 := Blk.new w1 33 zeroF
    have hlt2 := b2.lt
    replace b1 := b1.alloc (.cells (FC zeroF) 33)
    replace b2 := b2.alloc (.cells (FC zeroF) 33)
    have hsz := h0.size
    replace h0 := h0.alloc h0.size (.cells (FC zeroF) 33)
    rw [FC_zero] at b1 b2 b3 h0
    generalize (w1.alloc _) = w2 at b1 b2 b3 h0 ⊢
    generalize hB3 : w1.heap.size = B3 at *
    refine (dots_any _ f _ hf b1).mono ?_
    rintro e' w3 ⟨v, rfl, hown, hb1⟩
    have hlt3 := b3.lt
    replace b2 := b2.below hb1 b2.lt
    replace b3 := b3.below hb1 b3.lt
    replace h0 := grown_below h0 hb1 h0.size
    obtain ⟨p, cap, rfl, _⟩ := dots_shape hown
    clear hb1 b1 hB3
    go_wp2_with fail
    go_loopw [6] (fun i wr => ∃ k : Nat, k ≤ (dots f).length ∧ i = .int .i64 k ∧ Blk wr (w.heap.size + 1) 33 zeroF ∧ Blk wr B3 33 (putAll (((dots f).map fun d => (11 - (d.2 : Int), (d.1 : Int))).take k) zeroF) ∧ wr.ownsRow w2.heap.size 65 2 (.slice p (dots f).length cap) (dots f).length (dotCells (dots f)) ∧ Below w.heap.size w wr) (fun i _ => (dots f).length - (intOf i).toNat)
    case atStart => exact ⟨0, by omega, rfl, b2, b3, hown, h0⟩
    case round =>
      obtain ⟨k, hk, rfl, b2, b3, hown, hb⟩ := hrel
      have hlen : (dots f).length ≤ 144 := dotsTo_length f 144
      by_cases hlt' : k < (dots f).length
      · have hd : (dots f)[k]? = some (dots f)[k] := List.getElem?_eq_getElem hlt'
        generalize hdd : (dots f)[k] = d at hd
        have hm := mem_dots.1 (List.mem_of_getElem? hd)
        have hstep : (((dots f).map fun d => (11 - (d.2 : Int), (d.1 : Int))).take (k + 1)) = (((dots f).map fun d => (11 - (d.2 : Int), (d.1 : Int))).take k) ++ [(11 - (d.2 : Int), (d.1 : Int))] := by
          rw [List.take_add_one, List.getElem?_map, hd]; rfl
        have HS := Lib.hid hstep
        obtain ⟨p', cap', hpc, hsh⟩ := dots_shape hown
        cases hpc
        obtain ⟨g, rfl, c1, c2⟩ := hsh k d hd
        have hg := (hown.lt g rfl).1
        have hm1 := hm.1
        have hm2 := hm.2.1
        clear hd hdd hsh hstep hm
        go_wp2_with fail
        go_still_tail 13, (by kernel_rfl)
        change wpList _ _ _ _ _ wr.drew
        replace b2 : Blk wr.drew _ _ _ := b2
        replace b3 : Blk wr.drew _ _ _ := b3
        replace hown := hown.drew
        replace hb : Below _ _ wr.drew := ⟨hb.os, hb.tape, hb.output, hb.size, hb.block⟩
        generalize wr.drew = wr at *
        go_wp2_with (go_at_call 38; refine (put_any _ _ _ _ _ (putAll_lt _ zeroF_lt) b3).mono ?_; rintro e' w4 ⟨rfl, hw, b3'⟩)
        go_roundw
        case rel =>
          go_light
          refine ⟨k + 1, by omega, by go_num, hw.blk b2 (by omega), ?_, hown.kept hw.grown (.inr (by simp [Value.ownBlock]; omega)), hw.below hb (by omega) hb.size⟩
          rw [HS.out, putAll_snoc]
          exact b3'
        case measure => simp [intOf]; omega
      · have hk' : k = (dots f).length := by omega
        subst hk'
        go_wp2_with (first | (refine wpList_load_fr rfl 33 28 _ rfl _ rfl b3 Tryd.underlying33 (by kernel_rfl) ?_) | (refine wpList_store_fr rfl 33 _ _ rfl _ rfl b2 rfl (by kernel_rfl) ?_))
        refine bodyPost_ret_fr2 (p := 2) (u := 3) (ty := 33) (e := 28) rfl rfl (b2.setRow _) Tryd.underlying33 (by kernel_rfl) rfl ⟨?_, below_setRow hb (by omega) _⟩
        rw [HW.out, hv, List.take_of_length_le (by simp)]
        rfl
end Go.Proofs.YtennmnkjdchbhacDoor
