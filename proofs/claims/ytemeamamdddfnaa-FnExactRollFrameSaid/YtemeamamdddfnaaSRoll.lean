/- spec: RollFrame. -/
import Derived.Test.YtemeamamdddfnaaRows
import Derived.Test.YtemeamamdddfnaaSMove
namespace Go.Proofs.Ytemeamamdddfnaa
open Go.RowKit
set_option linter.unusedVariables false
set_option maxHeartbeats 1000000 in
theorem specRollFrame_any (f : Nat → Nat) (e s : Int) (hf : ∀ k, f k < 65536) (w : World) :
    Calls Try.prog 30 #[.agg (FC f), .int .i64 e, .int .i64 s] w fun e' w' => e' = .returned (.tuple #[.agg (FC (ifC (wayC f e s) (rolledS f e s))), .int .i64 (wayC f e s)]) ∧ Below w.heap.size w w' := by
  have b1 := (Blk.new w 27 f).alloc (.cells (FC zeroF) 27)
  have b2 := Blk.new (w.alloc (.cells (FC f) 27)) 27 zeroF
  rw [World.size_alloc] at b2
  have h0 := ((Below.refl w.heap.size w).alloc (Nat.le_refl _) (.cells (FC f) 27)).alloc (by simp) (.cells (FC zeroF) 27)
  rw [FC_zero] at b1 b2 h0
  rcases wayC_cases f e s with ⟨ho, ha⟩ | ⟨ho, h1, ha⟩ | ⟨ho, h1, h2, ha⟩ | ⟨ho, h1, h2, ha⟩
  · have hv : ifC 1 (rolledS f e s) = zeroF := by simp [ifC]
    go_enter Try.func30, Try.ntmps30
    go_wp2_with fail
    generalize ((w.alloc _).alloc _) = w1 at *
    refine (way_any _ f _ _ _ b1).mono ?_
    rintro e' w' ⟨rfl, rfl⟩
    go_wp2_with (refine wpList_store_fr (f := zeroF) rfl 27 _ _ rfl _ rfl b2 rfl (by kernel_rfl) ?_)
    exact bodyPost_ret_fr2 (p := 6) (u := 7) (ty := 27) (e := 24) rfl rfl (b2.setRow _) Try.underlying27 (by kernel_rfl) rfl ⟨by rw [ha, hv]; rfl, below_setRow h0 (by omega) _⟩
  · have hv : ifC 2 (rolledS f e s) = zeroF := by simp [ifC]
    go_enter Try.func30, Try.ntmps30
    go_wp2_with fail
    generalize ((w.alloc _).alloc _) = w1 at *
    refine (way_any _ f _ _ _ b1).mono ?_
    rintro e' w' ⟨rfl, rfl⟩
    go_wp2_with (refine wpList_store_fr (f := zeroF) rfl 27 _ _ rfl _ rfl b2 rfl (by kernel_rfl) ?_)
    exact bodyPost_ret_fr2 (p := 6) (u := 7) (ty := 27) (e := 24) rfl rfl (b2.setRow _) Try.underlying27 (by kernel_rfl) rfl ⟨by rw [ha, hv]; rfl, below_setRow h0 (by omega) _⟩
  · have hv : ifC 2 (rolledS f e s) = zeroF := by simp [ifC]
    go_enter Try.func30, Try.ntmps30
    go_wp2_with fail
    generalize ((w.alloc _).alloc _) = w1 at *
    refine (way_any _ f _ _ _ b1).mono ?_
    rintro e' w' ⟨rfl, rfl⟩
    go_wp2_with (refine wpList_store_fr (f := zeroF) rfl 27 _ _ rfl _ rfl b2 rfl (by kernel_rfl) ?_)
    exact bodyPost_ret_fr2 (p := 6) (u := 7) (ty := 27) (e := 24) rfl rfl (b2.setRow _) Try.underlying27 (by kernel_rfl) rfl ⟨by rw [ha, hv]; rfl, below_setRow h0 (by omega) _⟩
  · have hv : ifC 0 (rolledS f e s) = rolledS f e s := by simp [ifC]
    have i1 := inB_iff.1 h1
    have i2 := inB_iff.1 h2
    go_enter Try.func30, Try.ntmps30
    go_wp2_with fail
    generalize ((w.alloc _).alloc _) = w1 at *
    refine (way_any _ f _ _ _ b1).mono ?_
    rintro e' w' ⟨rfl, rfl⟩
    have HW := Lib.hid ha
    have e1 := i1.1
    have e2 := i1.2
    have s1 := i2.1
    have s2 := i2.2
    clear h1 h2 i1 i2
    go_wp2_with fail
    clear ha
    have b3 := Blk.new w1 27 zeroF
    have hlt2 := b2.lt
    replace b1 := b1.alloc (.cells (FC zeroF) 27)
    replace b2 := b2.alloc (.cells (FC zeroF) 27)
    have hsz := h0.size
    replace h0 := h0.alloc h0.size (.cells (FC zeroF) 27)
    rw [FC_zero] at b1 b2 b3 h0
    generalize (w1.alloc _) = w2 at b1 b2 b3 h0 ⊢
    generalize hB3 : w1.heap.size = B3 at *
    refine (dots_any _ f _ hf b1).mono ?_
    rintro e' w3 ⟨v, rfl, hown, hb1⟩
    have hlt3 := b3.lt
    replace b2 := b2.below hb1 b2.lt
    replace b3 := b3.below hb1 b3.lt
    replace h0 := grown_below h0 hb1 h0.size
    obtain ⟨p, cap, rfl, _⟩ := dots_shape hown
    clear hb1 b1 hB3
    go_wp2_with fail
    go_loopw [11] (fun i wr => ∃ k : Nat, k ≤ (dots f).length ∧ i = .int .i64 k ∧ Blk wr (w.heap.size + 1) 27 zeroF ∧ Blk wr B3 27 (putAll (((dots f).map fun d => (((d.1 : Int) + e) % 12, ((d.2 : Int) + s) % 12)).take k) zeroF) ∧ wr.ownsRow w2.heap.size 58 2 (.slice p (dots f).length cap) (dots f).length (dotCells (dots f)) ∧ Below w.heap.size w wr) (fun i _ => (dots f).length - (intOf i).toNat)
    case atStart => exact ⟨0, by omega, rfl, b2, b3, hown, h0⟩
    case round =>
      obtain ⟨k, hk, rfl, b2, b3, hown, hb⟩ := hrel
      have hlen : (dots f).length ≤ 144 := dotsTo_length f 144
      by_cases hlt' : k < (dots f).length
      · have hd : (dots f)[k]? = some (dots f)[k] := List.getElem?_eq_getElem hlt'
        generalize hdd : (dots f)[k] = d at hd
        have hm := mem_dots.1 (List.mem_of_getElem? hd)
        have hstep : (((dots f).map fun d => (((d.1 : Int) + e) % 12, ((d.2 : Int) + s) % 12)).take (k + 1)) = (((dots f).map fun d => (((d.1 : Int) + e) % 12, ((d.2 : Int) + s) % 12)).take k) ++ [(((d.1 : Int) + e) % 12, ((d.2 : Int) + s) % 12)] := by
          rw [List.take_add_one, List.getElem?_map, hd]; rfl
        have HS := Lib.hid hstep
        obtain ⟨p', cap', hpc, hsh⟩ := dots_shape hown
        cases hpc
        obtain ⟨g, rfl, c1, c2⟩ := hsh k d hd
        have hg := (hown.lt g rfl).1
        have hm1 := hm.1
        have hm2 := hm.2.1
        clear hd hdd hsh hstep hm
        go_wp2_with (go_at_call 40; refine (put_any _ _ _ _ _ (putAll_lt _ zeroF_lt) b3).mono ?_; rintro e' w4 ⟨rfl, hw, b3'⟩)
        go_roundw
        case rel =>
          go_light
          refine ⟨k + 1, by omega, by go_num, hw.blk b2 (by omega), ?_, hown.kept hw.grown (.inr (by simp [Value.ownBlock]; omega)), hw.below hb (by omega) hb.size⟩
          rw [HS.out, putAll_snoc]
          exact b3'
        case measure => simp [intOf]; omega
      · have hk' : k = (dots f).length := by omega
        subst hk'
        go_wp2_with (first | (refine wpList_load_fr rfl 27 24 _ rfl _ rfl b3 Try.underlying27 (by kernel_rfl) ?_) | (refine wpList_store_fr rfl 27 _ _ rfl _ rfl b2 rfl (by kernel_rfl) ?_))
        refine bodyPost_ret_fr2 (p := 6) (u := 7) (ty := 27) (e := 24) rfl rfl (b2.setRow _) Try.underlying27 (by kernel_rfl) rfl ⟨?_, below_setRow hb (by omega) _⟩
        rw [HW.out, hv, List.take_of_length_le (by simp)]
        rfl
theorem rollFrames_eq (f : Nat → Nat) (e s : Int) : FC (ifC (wayC f e s) (rolledS f e s)) = FC (ifC (wayC f e s) (rolledI f e s 12)) := by
  rcases wayC_cases f e s with ⟨ho, ha⟩ | ⟨ho, h1, ha⟩ | ⟨ho, h1, h2, ha⟩ | ⟨ho, h1, h2, ha⟩
  · rw [ha]; rfl
  · rw [ha]; rfl
  · rw [ha]; rfl
  · rw [ha]; exact FC_ext (rolled_eq ho e s)
end Go.Proofs.Ytemeamamdddfnaa
