/- The walk of the law FnExactDifferBy: it returns true and writes nothing that was there. -/
import Derived.Test.YtemeamamdddfnabRows
import Derived.Test.YtemeamamdddfnabL1
import Derived.Test.YtemeamamdddfnabSDifferBy
import Derived.Test.YtemeamamdddfnabIDifferBy
namespace Go.Proofs.Ytemeamamdddfnab.wFnExactDifferBy
open Go.RowKit
set_option linter.unusedVariables false
set_option maxHeartbeats 1000000 in
theorem walk (a : Nat → Nat) (b : Nat → Nat) (ha : ∀ k, a k < 65536) (hb : ∀ k, b k < 65536) (w : World) :
    Calls Try.prog 6 #[.agg (FC a), .agg (FC b)] w fun e w' => e = .returned (.bool true) ∧ Below w.heap.size w w' := by
  have cS := fun w => specDifferBy_any a b ha hb w
  have cI := fun w => implDifferBy_any a b ha hb w
  have b1 := (Blk.new w 23 a).alloc (.cells (FC b) 23)
  have b2 := Blk.new (w.alloc (.cells (FC a) 23)) 23 b
  rw [World.size_alloc] at b2
  have h0 := ((Below.refl w.heap.size w).alloc (Nat.le_refl _) (.cells (FC a) 23)).alloc (by simp) (.cells (FC b) 23)
  go_enter Try.func6, Try.ntmps6
  go_wp2_with fail
  generalize ((w.alloc (.cells (FC a) 23)).alloc (.cells (FC b) 23)) = w0 at *
  refine wp_region_calm (by kernel_rfl) (by kernel_rfl) ?_
  repeat (first | (refine wpQuiet_load_fr rfl 23 22 _ rfl _ rfl (by first | exact b1 | exact b2) Try.underlying23 (by kernel_rfl) ?_) | quiet_step (first | exact Calls.regrown_of (toFrame_any _ _) | exact Calls.regrown_of (cS _) | exact Calls.regrown_of (cI _)))
  refine wpQuiet_nil ?_
  intro w1 hb1
  replace b1 := b1.below hb1 b1.lt
  replace b2 := b2.below hb1 b2.lt
  replace h0 := grown_below h0 hb1 h0.size
  clear hb1
  go_wp2_with fail
  refine wp_region_calm (by kernel_rfl) (by kernel_rfl) ?_
  repeat (first | (refine wpQuiet_load_fr rfl 23 22 _ rfl _ rfl (by first | exact b1 | exact b2) Try.underlying23 (by kernel_rfl) ?_) | quiet_step (first | exact Calls.regrown_of (toFrame_any _ _) | exact Calls.regrown_of (cS _) | exact Calls.regrown_of (cI _)))
  refine wpQuiet_nil ?_
  intro w1 hb1
  replace b1 := b1.below hb1 b1.lt
  replace b2 := b2.below hb1 b2.lt
  replace h0 := grown_below h0 hb1 h0.size
  clear hb1
  go_wp2
  go_ret
  exact ⟨rfl, h0⟩
end Go.Proofs.Ytemeamamdddfnab.wFnExactDifferBy
