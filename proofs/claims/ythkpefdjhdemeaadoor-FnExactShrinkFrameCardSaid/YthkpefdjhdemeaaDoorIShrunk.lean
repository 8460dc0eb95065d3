/- impl: Frame.shrunk. -/
import Derived.Test.YthkpefdjhdemeaaDoorRows
import Derived.Test.YthkpefdjhdemeaaDoorIGrown
import Derived.Test.YthkpefdjhdemeaaDoorIValid
namespace Go.Proofs.YthkpefdjhdemeaaDoor
set_option maxRecDepth 100000
open Go.RowKit
set_option linter.unusedVariables false
def shrI (f : Nat → Nat) : Nat → Nat := invF (growI (invF f))
theorem invF_okF {f : Nat → Nat} (h : okF f = true) : okF (invF f) = true := okF_iff.2 fun y hy => by
  have h1 := okF_iff.1 h y hy
  have : invF f y < 2 ^ 12 := Nat.xor_lt_two_pow (by omega) (by decide)
  omega
set_option maxHeartbeats 1000000 in
theorem shrunk_any (f : Nat → Nat) (ho : okF f = true) (hf : ∀ k, f k < 65536) (w : World) (hT : Tab w 0 BT) :
    Calls Tryd.prog 110 #[.agg (FC f)] w fun e' w' => e' = .returned (.agg (FC (shrI f))) ∧ Below w.heap.size w w' := by
  have b1 := (Blk.new w 27 f).alloc (.cells (FC zeroF) 27)
  have b2 := Blk.new (w.alloc (.cells (FC f) 27)) 27 zeroF
  rw [World.size_alloc] at b2
  have h0 := ((Below.refl w.heap.size w).alloc (Nat.le_refl _) (.cells (FC f) 27)).alloc (by simp) (.cells (FC zeroF) 27)
  rw [FC_zero] at b1 b2 h0
  have HT := Lib.hid hT
  clear hT
  go_enter Tryd.func110, Tryd.ntmps110
  go_wp2_with (refine wpList_load_fr rfl 27 22 _ rfl _ rfl b1 Tryd.underlying27 (by kernel_rfl) ?_)
  generalize ((w.alloc _).alloc _) = w1 at *
  refine (inverted_any f hf _).mono ?_
  rintro e' w2 ⟨rfl, hb1⟩
  replace b2 := b2.below hb1 b2.lt
  replace h0 := grown_below h0 hb1 h0.size
  clear hb1 b1
  go_wp2_with fail
  refine (grown_any (invF f) (invF_okF ho) (invF_lt hf) _ (HT.out.below h0 HT.out.lt)).mono ?_
  rintro e' w3 ⟨rfl, hb1⟩
  replace b2 := b2.below hb1 b2.lt
  replace h0 := grown_below h0 hb1 h0.size
  clear hb1
  go_wp2_with fail
  refine (inverted_any (growI (invF f)) (growI_lt (invF_lt hf)) _).mono ?_
  rintro e' w4 ⟨rfl, hb1⟩
  replace b2 := b2.below hb1 b2.lt
  replace h0 := grown_below h0 hb1 h0.size
  clear hb1
  go_wp2_with (refine wpList_store_fr rfl 27 _ _ rfl _ rfl b2 rfl (by kernel_rfl) ?_)
  exact bodyPost_ret_fr (p := 2) (ty := 27) (e := 22) rfl rfl (b2.setRow _) Tryd.underlying27 (by kernel_rfl) rfl ⟨rfl, below_setRow h0 (by omega) _⟩
end Go.Proofs.YthkpefdjhdemeaaDoor
