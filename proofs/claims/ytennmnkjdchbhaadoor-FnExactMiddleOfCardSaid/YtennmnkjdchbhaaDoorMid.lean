/- MiddleOf: spec and impl. -/
import Derived.Test.YtennmnkjdchbhaaDoorMorAt
namespace Go.Proofs.YtennmnkjdchbhaaDoor
set_option maxRecDepth 100000
open Go.RowKit
set_option linter.unusedVariables false
set_option linter.unusedSimpArgs false
set_option maxHeartbeats 1000000 in
theorem specMiddleOf_any (a b : Nat → Nat) (w : World) (ha : ∀ k, a k < 65536) (hb : ∀ k, b k < 65536) :
    Calls Tryd.prog 5 #[.agg (FC a), .agg (FC b)] w fun e w' => e = .returned (.tuple #[.agg (FC (ifC (morC a b 1 2) (morF a b 1 2))), .int .i64 (morC a b 1 2)]) ∧ Below w.heap.size w w' := by
  have cM := fun (W : World) (hB : Below w.heap.size w W) => specMorphAt_any a b 1 2 W ha hb
  rw [show (1 : Int).toNat = 1 from rfl, show (2 : Int).toNat = 2 from rfl] at cM
  have CM := Lib.hid cM
  have b1 := ((Blk.new w 24 a).alloc (.cells (FC b) 24)).alloc (.cells (FC zeroF) 24)
  have b2 := (Blk.new (w.alloc (.cells (FC a) 24)) 24 b).alloc (.cells (FC zeroF) 24)
  have b3 := Blk.new ((w.alloc (.cells (FC a) 24)).alloc (.cells (FC b) 24)) 24 zeroF
  rw [World.size_alloc] at b2
  rw [World.size_alloc, World.size_alloc] at b3
  have h0 := (((Below.refl w.heap.size w).alloc (Nat.le_refl _) (.cells (FC a) 24)).alloc (by simp) (.cells (FC b) 24)).alloc (by simp; omega) (.cells (FC zeroF) 24)
  rw [FC_zero] at b1 b2 b3 h0
  clear cM
  generalize ifC (morC a b 1 2) (morF a b 1 2) = r at *
  generalize morC a b 1 2 = c at *
  go_enter Tryd.func5, Tryd.ntmps5
  go_wp2_with (first | (refine wpList_load_fr rfl 24 22 _ rfl _ rfl b1 Tryd.underlying24 (by kernel_rfl) ?_) | (refine wpList_load_fr rfl 24 22 _ rfl _ rfl b2 Tryd.underlying24 (by kernel_rfl) ?_))
  generalize (((w.alloc _).alloc _).alloc _) = w0 at *
  refine (CM.out _ h0).mono ?_
  rintro e w1 ⟨rfl, hb1⟩
  replace b3 := b3.below hb1 b3.lt
  replace h0 := grown_below h0 hb1 h0.size
  clear hb1
  go_wp2_with (refine wpList_store_fr rfl 24 _ _ rfl _ rfl b3 rfl (by kernel_rfl) ?_)
  exact bodyPost_ret_fr2 (p := 4) (u := 5) (ty := 24) (e := 22) rfl rfl (b3.setRow _) Tryd.underlying24 (by kernel_rfl) rfl ⟨rfl, below_setRow h0 (by omega) _⟩
set_option maxHeartbeats 1000000 in
theorem implMiddleOf_any (a b : Nat → Nat) (sa : Nat → Addr) (w : World) (ha : ∀ k, a k < 65536) (hb : ∀ k, b k < 65536) (hs : Sent w sa) :
    Calls Tryd.prog 7 #[.agg (FC a), .agg (FC b)] w fun e w' => e = .returned (.tuple #[.agg (FC (ifC (morC a b 1 2) (morF a b 1 2))), .int .i64 (morC a b 1 2)]) ∧ Below w.heap.size w w' := by
  have cM := fun (W : World) (hB : Below w.heap.size w W) => implMorphAt_any a b 1 2 sa W ha hb (hs.below hB)
  rw [show (1 : Int).toNat = 1 from rfl, show (2 : Int).toNat = 2 from rfl] at cM
  have CM := Lib.hid cM
  have b1 := ((Blk.new w 24 a).alloc (.cells (FC b) 24)).alloc (.cells (FC zeroF) 24)
  have b2 := (Blk.new (w.alloc (.cells (FC a) 24)) 24 b).alloc (.cells (FC zeroF) 24)
  have b3 := Blk.new ((w.alloc (.cells (FC a) 24)).alloc (.cells (FC b) 24)) 24 zeroF
  rw [World.size_alloc] at b2
  rw [World.size_alloc, World.size_alloc] at b3
  have h0 := (((Below.refl w.heap.size w).alloc (Nat.le_refl _) (.cells (FC a) 24)).alloc (by simp) (.cells (FC b) 24)).alloc (by simp; omega) (.cells (FC zeroF) 24)
  rw [FC_zero] at b1 b2 b3 h0
  clear cM hs
  generalize ifC (morC a b 1 2) (morF a b 1 2) = r at *
  generalize morC a b 1 2 = c at *
  go_enter Tryd.func7, Tryd.ntmps7
  go_wp2_with (first | (refine wpList_load_fr rfl 24 22 _ rfl _ rfl b1 Tryd.underlying24 (by kernel_rfl) ?_) | (refine wpList_load_fr rfl 24 22 _ rfl _ rfl b2 Tryd.underlying24 (by kernel_rfl) ?_))
  generalize (((w.alloc _).alloc _).alloc _) = w0 at *
  refine (CM.out _ h0).mono ?_
  rintro e w1 ⟨rfl, hb1⟩
  replace b3 := b3.below hb1 b3.lt
  replace h0 := grown_below h0 hb1 h0.size
  clear hb1
  go_wp2_with (refine wpList_store_fr rfl 24 _ _ rfl _ rfl b3 rfl (by kernel_rfl) ?_)
  exact bodyPost_ret_fr2 (p := 4) (u := 5) (ty := 24) (e := 22) rfl rfl (b3.setRow _) Tryd.underlying24 (by kernel_rfl) rfl ⟨rfl, below_setRow h0 (by omega) _⟩
end Go.Proofs.YtennmnkjdchbhaaDoor
