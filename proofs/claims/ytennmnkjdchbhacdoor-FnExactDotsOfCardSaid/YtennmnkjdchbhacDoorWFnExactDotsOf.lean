/- The walk of the law FnExactDotsOf: it returns true and writes nothing that was there. -/
import Derived.Test.YtennmnkjdchbhacDoorRows
import Derived.Test.YtennmnkjdchbhacDoorL1
import Derived.Test.YtennmnkjdchbhacDoorLI64
import Derived.Test.YtennmnkjdchbhacDoorMDot
import Derived.Test.YtennmnkjdchbhacDoorDotsOf
namespace Go.Proofs.YtennmnkjdchbhacDoor.wFnExactDotsOf
set_option maxRecDepth 100000
open Go.RowKit
set_option linter.unusedVariables false
set_option linter.unusedSimpArgs false
theorem _root_.Go.Proofs.YtennmnkjdchbhacDoor.Blk.kept_own {w w' : World} {g : Nat} {t : TypeId} {f : Nat → Nat} {row : Option Nat} (h : Blk w g t f) (hg : w.grownBy w' row) (hn : row ≠ some g) : Blk w' g t f := by
  unfold Blk; rw [hg.block g h.lt (Ne.symm hn)]; exact h
set_option maxHeartbeats 4000000 in
theorem walk (f : Nat → Nat) (hf : ∀ k, f k < 65536) (w : World) (hD : Tab w 0 DBC) :
    Calls Tryd.prog 4 #[.agg (FC f)] w fun e w' => e = .returned (.bool true) ∧ Below w.heap.size w w' := by
  have cS := fun w => specDotsOf_any f hf w
  have cI := fun (W : World) (hB : Below w.heap.size w W) => implDotsOf_any f hf W (hD.below hB hD.lt)
  clear hD
  have hMl : (ifL (okC f) (dotsZ f)).length ≤ 1000 := dots_len f
  have bf := Blk.new w 29 f
  have h0 := (Below.refl w.heap.size w).alloc (Nat.le_refl _) (.cells (FC f) 29)
  go_enter Tryd.func4, Tryd.ntmps4
  go_wp2_with (refine wpList_load_fr rfl 29 28 _ rfl _ rfl bf Tryd.underlying29 (by kernel_rfl) ?_)
  generalize (w.alloc _) = w0 at *
  refine (toFrame_any _ _).mono ?_
  rintro e w1 ⟨rfl, hb⟩
  replace bf := bf.below hb bf.lt
  replace h0 := grown_below h0 hb h0.size
  clear hb
  go_wp2_with fail
  refine (cS _).mono ?_
  rintro e w2 ⟨v4, rfl, O4, hb⟩
  replace bf := bf.below hb bf.lt
  replace h0 := grown_below h0 hb h0.size
  clear hb
  have n4 : ∀ k, v4.ownBlock = some k → k < w2.heap.size := fun k hk => (O4.lt k hk).2
  have lwf := bf.lt
  go_wp2_with (refine wpList_load_fr rfl 29 28 _ rfl _ rfl bf Tryd.underlying29 (by kernel_rfl) ?_)
  refine (toFrame_any _ _).mono ?_
  rintro e w3 ⟨rfl, hb⟩
  replace bf := bf.below hb bf.lt
  replace O4 := O4.below hb
  replace h0 := grown_below h0 hb h0.size
  clear hb
  have z0 := h0.size
  have z1 : ∀ k, v4.ownBlock = some k → k < w3.heap.size := fun k hk => (O4.lt k hk).2
  have lxf := bf.lt
  go_wp2_with fail
  refine (cI _ h0).mono ?_
  rintro e w4 ⟨v7, rfl, O7, hb⟩
  replace bf := bf.below hb bf.lt
  replace O4 := O4.below hb
  replace h0 := grown_below h0 hb h0.size
  clear hb
  have n7 : ∀ k, v7.ownBlock = some k → w3.heap.size ≤ k := fun k hk => (O7.lt k hk).1
  go_wp2_with fail
  refine (eqDotS_same _ _ (ifL (okC f) (dotsZ f)) _ (O7.sl (by decide)) (O4.sl (by decide))).mono ?_
  rintro e w5 ⟨rfl, hb⟩
  replace bf := bf.below hb bf.lt
  replace O4 := O4.below hb
  replace O7 := O7.below hb
  replace h0 := grown_below h0 hb h0.size
  clear hb
  have b4 : ∀ x, x < w3.heap.size → v7.ownBlock ≠ some x := fun x hx e => by have := n7 x e; omega
  go_wp2_with fail
  refine (markDotS_own _ (ifL (okC f) (dotsZ f)) _ 101 _ (by omega) (by omega) (by omega) O7).mono ?_
  rintro e w6 ⟨rfl, hgr, K7⟩
  replace O4 := O4.kept hgr (own_apart (B := w3.heap.size) z1 n7)
  replace bf := bf.kept_own hgr (b4 _ lxf)
  replace h0 := h0.grown hgr h0.size (fun k hk => Nat.le_trans z0 (n7 k hk))
  clear hgr O7
  generalize hq : (ifL (okC f) (dotsZ f)).length = q at *
  go_wp2_with fail
  refine (heldDotS_own _ q 101 _ (by omega) (by omega) (by omega) K7).mono ?_
  rintro e w' ⟨rfl, rfl⟩
  go_wp2_with (refine wpList_load_fr rfl 29 28 _ rfl _ rfl bf Tryd.underlying29 (by kernel_rfl) ?_)
  refine (toFrame_any _ _).mono ?_
  rintro e w7 ⟨rfl, hb⟩
  replace bf := bf.below hb bf.lt
  replace O4 := O4.below hb
  replace K7 := K7.below hb
  replace h0 := grown_below h0 hb h0.size
  clear hb
  go_wp2_with fail
  refine (cI _ h0).mono ?_
  rintro e w8 ⟨v12, rfl, O12, hb⟩
  replace bf := bf.below hb bf.lt
  replace O4 := O4.below hb
  replace K7 := K7.below hb
  replace h0 := grown_below h0 hb h0.size
  clear hb
  go_wp2_with fail
  refine (eqDotS_same _ _ (ifL (okC f) (dotsZ f)) _ (O12.sl (by decide)) (O4.sl (by decide))).mono ?_
  rintro e w9 ⟨rfl, hb⟩
  replace O4 := O4.below hb
  replace O12 := O12.below hb
  replace K7 := K7.below hb
  replace h0 := grown_below h0 hb h0.size
  clear hb
  go_wp2_with fail
  refine (heldDotS_own _ q 101 _ (by omega) (by omega) (by omega) K7).mono ?_
  rintro e w' ⟨rfl, rfl⟩
  go_wp2
  go_ret
  exact ⟨rfl, h0⟩
end Go.Proofs.YtennmnkjdchbhacDoor.wFnExactDotsOf
