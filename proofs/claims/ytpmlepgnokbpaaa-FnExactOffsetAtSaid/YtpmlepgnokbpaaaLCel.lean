/- The laws' own helpers over cels: toCel, eqCel. -/
import Derived.Test.YtpmlepgnokbpaaaRows
import Derived.Test.YtpmlepgnokbpaaaCel0
import Derived.Test.YtpmlepgnokbpaaaL1
namespace Go.Proofs.Ytpmlepgnokbpaaa
set_option maxRecDepth 100000
open Go.RowKit
set_option linter.unusedVariables false
set_option linter.unusedSimpArgs false
set_option maxHeartbeats 1000000 in
theorem toCel_any (i k : Nat → Nat) (w : World) :
    Calls Try.prog 16 #[.agg (CC i k)] w fun e w' => e = .returned (.agg (CC i k)) ∧ Below w.heap.size w w' := by
  have a1 := ((CelAt.new w 25 i k).alloc (.cells (CC zeroF zeroF) 29)).alloc (.cells (CC zeroF zeroF) 29)
  have a2 := (CelAt.new (w.alloc (.cells (CC i k) 25)) 29 zeroF zeroF).alloc (.cells (CC zeroF zeroF) 29)
  have a3 := CelAt.new ((w.alloc (.cells (CC i k) 25)).alloc (.cells (CC zeroF zeroF) 29)) 29 zeroF zeroF
  rw [World.size_alloc] at a2
  rw [World.size_alloc, World.size_alloc] at a3
  have h0 := (((Below.refl w.heap.size w).alloc (Nat.le_refl _) (.cells (CC i k) 25)).alloc (by simp) (.cells (CC zeroF zeroF) 29)).alloc (by simp; omega) (.cells (CC zeroF zeroF) 29)
  rw [CC_zero] at a1 a2 a3 h0
  go_enter Try.func16, Try.ntmps16
  go_wp2_with (first
    | (refine wpList_load_at rfl 23 22 _ rfl _ _ rfl (by first | with_reducible exact a1.ink | with_reducible exact a1.cov) Try.underlying23 (by kernel_rfl) ?_)
    | (go_at_call 26; refine (toFrame_any _ _).mono ?_; rintro e w2 ⟨rfl, hb⟩; replace a1 := a1.below hb a1.lt; replace a2 := a2.below hb a2.lt; replace a3 := a3.below hb a3.lt; replace h0 := grown_below h0 hb h0.size; clear hb)
    | (refine wpList_store_ink rfl 27 _ _ rfl a3 rfl rfl (by kernel_rfl) ?_; intro a3' hw; replace a1 := a1.wrote hw (by omega); replace a2 := a2.wrote hw (by omega); replace h0 := hw.below h0 (by omega) h0.size; clear a3; have a3 := a3'; clear hw a3'; generalize World.setCells _ _ _ _ = w3 at *)
    | (refine wpList_store_cov rfl 27 _ _ rfl a3 rfl rfl (by kernel_rfl) ?_; intro a3' hw; replace a1 := a1.wrote hw (by omega); replace a2 := a2.wrote hw (by omega); replace h0 := hw.below h0 (by omega) h0.size; clear a3; have a3 := a3'; clear hw a3'; generalize World.setCells _ _ _ _ = w3 at *)
    | (refine wpList_load_cel rfl 29 _ rfl rfl a3 Try.underlying29 rfl (by kernel_rfl) ?_)
    | (refine wpList_store_cel rfl 29 _ _ rfl a2 rfl rfl (by kernel_rfl) ?_; intro a2'))
  exact bodyPost_ret_row (p := 2) (ty := 29) rfl rfl a2' Try.underlying29 rfl (by kernel_rfl) rfl ⟨rfl, below_setRow h0 (by omega) _⟩
set_option maxHeartbeats 1000000 in
theorem eqCel_same (i k : Nat → Nat) (w : World) :
    Calls Try.prog 28 #[.agg (CC i k), .agg (CC i k)] w fun e w' => e = .returned (.bool true) ∧ Below w.heap.size w w' := by
  have a1 := (CelAt.new w 29 i k).alloc (.cells (CC i k) 29)
  have a2 := CelAt.new (w.alloc (.cells (CC i k) 29)) 29 i k
  rw [World.size_alloc] at a2
  have h0 := ((Below.refl w.heap.size w).alloc (Nat.le_refl _) (.cells (CC i k) 29)).alloc (by simp) (.cells (CC i k) 29)
  have cI := fun w => eqFrame_any i i w
  have cK := fun w => eqFrame_any k k w
  rw [eqF_refl] at cI cK
  go_enter Try.func28, Try.ntmps28
  go_wp2_with (first
    | (refine wpList_load_at rfl 27 22 _ rfl _ _ rfl (by first | with_reducible exact a1.ink | with_reducible exact a1.cov | with_reducible exact a2.ink | with_reducible exact a2.cov) Try.underlying27 (by kernel_rfl) ?_)
    | (go_at_call 35; first | (refine (cI _).mono ?_; clear cI; rintro e w2 ⟨rfl, hb⟩; replace a1 := a1.below hb a1.lt; replace a2 := a2.below hb a2.lt; replace h0 := grown_below h0 hb h0.size; clear hb) | (refine (cK _).mono ?_; rintro e w2 ⟨rfl, hb⟩; replace h0 := grown_below h0 hb h0.size; clear hb)))
  go_ret
  exact ⟨rfl, h0⟩
end Go.Proofs.Ytpmlepgnokbpaaa
