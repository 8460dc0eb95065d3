/- DotsOf: spec and impl. -/
import Derived.Test.YtennmnkjdchbhacDoorRows
import Derived.Test.YtennmnkjdchbhacDoorDots
import Derived.Test.YtennmnkjdchbhacDoorDotsI
import Derived.Test.YtennmnkjdchbhacDoorColDot
import Derived.Test.YtennmnkjdchbhacDoorIValid
import Derived.Test.YtennmnkjdchbhacDoorSInvert
namespace Go.Proofs.YtennmnkjdchbhacDoor
set_option maxRecDepth 100000
open Go.RowKit Go.Shelf
set_option linter.unusedVariables false
def zD (d : Nat × Nat) : Int × Int := ((d.1 : Int), (d.2 : Int))
def dotsZ (f : Nat → Nat) : List (Int × Int) := (dots f).map zD
theorem dots_cells (l : List (Nat × Nat)) : dotCells l = eSh.cells (l.map zD) := by
  induction l with
  | nil => rfl
  | cons d l ih =>
    rw [List.map_cons, Enc.cells_cons, ← ih]
    rfl
theorem dots_len (f : Nat → Nat) : (ifL (okC f) (dotsZ f)).length ≤ 1000 := by
  have : (dots f).length ≤ 144 := dotsTo_length f 144
  unfold ifL
  split
  · simp [dotsZ]; omega
  · simp
theorem ownDots {w : World} {b : Nat} {v : Value} {l : List (Nat × Nat)} (h : w.ownsRow b 65 2 v l.length (dotCells l)) : OwnL eSh w b 65 v (l.map zD) := by
  rw [dots_cells] at h
  unfold OwnL
  rw [List.length_map]
  exact h
set_option maxHeartbeats 1000000 in
theorem specDotsOf_any (f : Nat → Nat) (hf : ∀ k, f k < 65536) (w : World) :
    Calls Tryd.prog 13 #[.agg (FC f)] w (GivesL eSh 65 (ifL (okC f) (dotsZ f)) (okC f) w) := by
  have b1 := Blk.new w 33 f
  have h0 := (Below.refl w.heap.size w).alloc (Nat.le_refl _) (.cells (FC f) 33)
  have hsz : (w.alloc (.cells (FC f) 33)).heap.size = w.heap.size + 1 := by simp
  rcases okC_cases f with ⟨ho, ha⟩ | ⟨ho, ha⟩
  · go_enter Tryd.func13, Tryd.ntmps13
    go_wp2_with fail
    generalize w.alloc _ = w1 at *
    refine (ok_any _ f _ b1).mono ?_
    rintro e' w' ⟨rfl, rfl⟩
    rw [ho]
    go_wp2_with fail
    go_ret2
    rw [ha]
    have hm := OwnL.made (E := eSh) w1 w.heap.size 65 (by omega)
    rw [hsz] at hm
    exact ⟨_, rfl, hm, h0.alloc h0.size _⟩
  · go_enter Tryd.func13, Tryd.ntmps13
    go_wp2_with fail
    generalize w.alloc _ = w1 at *
    refine (ok_any _ f _ b1).mono ?_
    rintro e' w' ⟨rfl, rfl⟩
    rw [ho]
    go_wp2_with (go_at_call 33; refine (dots_any _ f _ hf b1).mono ?_; rintro e' w2 ⟨v, rfl, hown, hb1⟩)
    go_ret2
    rw [ha]
    exact ⟨_, rfl, (ownDots hown).mono (by omega), grown_below h0 hb1 h0.size⟩
set_option maxHeartbeats 1000000 in
theorem implDotsOf_any (f : Nat → Nat) (hf : ∀ k, f k < 65536) (w : World) (hT : Tab w 0 DBC) :
    Calls Tryd.prog 15 #[.agg (FC f)] w (GivesL eSh 65 (ifL (okC f) (dotsZ f)) (okC f) w) := by
  have b1 := Blk.new w 33 f
  have h0 := (Below.refl w.heap.size w).alloc (Nat.le_refl _) (.cells (FC f) 33)
  rcases okC_cases f with ⟨ho, ha⟩ | ⟨ho, ha⟩
  · go_enter Tryd.func15, Tryd.ntmps15
    go_wp2_with (first | (refine wpList_load_fr rfl 33 28 _ rfl _ rfl b1 Tryd.underlying33 (by kernel_rfl) ?_) | (go_at_call 34; refine (valid_any f hf _).mono ?_; rintro e' w1 ⟨rfl, hb1⟩; rw [ho]; replace h0 := grown_below h0 hb1 h0.size))
    go_ret2
    rw [ha]
    exact ⟨_, rfl, OwnL.nil_ _ _ _, h0⟩
  · have hlen : (dots f).length ≤ 144 := dotsTo_length f 144
    have hgl := hT.lt
    go_enter Tryd.func15, Tryd.ntmps15
    go_wp2_with (first | (refine wpList_load_fr rfl 33 28 _ rfl _ rfl b1 Tryd.underlying33 (by kernel_rfl) ?_) | (go_at_call 34; refine (valid_any f hf _).mono ?_; rintro e' w1 ⟨rfl, hb1⟩; rw [ho]; replace b1 := b1.below hb1 b1.lt; replace h0 := grown_below h0 hb1 h0.size) | (go_at_call 36; refine ((callsIn_wide (n := 1)).1 (dotsI_in 1 f _)).mono ?_; rintro e' w' ⟨rfl, rfl⟩))
    have b2 := Blk.new w1 33 f
    replace h0 := h0.alloc h0.size (.cells (FC f) 33)
    have hlt2 := b2.lt
    have hsz2 := h0.size
    have hT2 := hT.below h0 hgl
    have cC := collectDot_any 52 #[.pointer (some ⟨w1.heap.size, 0, none⟩)] (enters_of Tryd.func52 (by kernel_rfl) rfl) (fun x => #[.agg (eSh.c x).toArray]) (fun x => rfl) (dotsZ f) (by simp [dotsZ]; omega) (w1.alloc (.cells (FC f) 33)) (fun w' hb' => (dots_stops 3 (by omega) w1.heap.size _ f (by simpa using ho) hf w' (b2.below hb' hlt2) hb'.size (Nat.lt_of_lt_of_le hgl hsz2) (hT2.below hb' (Nat.lt_of_lt_of_le hgl hsz2))).map zD _ (fun x _ => rfl))
    generalize w1.alloc _ = w2 at *
    go_wp2_with (go_at_call 35; refine cC.mono ?_; rintro e' w3 ⟨v, rfl, hown, hb3⟩)
    go_ret2
    rw [ha]
    exact ⟨_, rfl, hown.mono hsz2, grown_below h0 hb3 h0.size⟩
end Go.Proofs.YtennmnkjdchbhacDoor
