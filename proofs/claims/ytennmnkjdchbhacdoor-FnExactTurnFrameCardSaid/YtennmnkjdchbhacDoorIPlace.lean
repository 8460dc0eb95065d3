/- impl: isPlace, placeIn, Frame.has, Frame.with. -/
import Derived.Test.YtennmnkjdchbhacDoorRows
import Derived.Test.YtennmnkjdchbhacDoorFr
import Derived.Test.YtennmnkjdchbhacDoorIValid
namespace Go.Proofs.YtennmnkjdchbhacDoor
set_option maxRecDepth 100000
open Go.RowKit
/-- What placeIn returns beside it. -/
def dotV (x y : Int) : Value := .agg #[.int .i8 x, .int .i8 y]
def placeV (f : Nat → Nat) (x y : Int) : Value := if askF f x y = 0 then dotV x y else dotV 0 0
set_option maxHeartbeats 400000 in
theorem dwith_any (f : Nat → Nat) (x y : Nat) (hx : x < 12) (hy : y < 12) (hf : ∀ k, f k < 65536) (w : World) :
    Calls Tryd.prog 75 #[.agg (FC f), .agg #[.int .i8 x, .int .i8 y]] w fun e w' => e = .returned (.agg (FC (putF f x y))) ∧ Below w.heap.size w w' := by
  have b1 := Blk.new w 33 f
  have b1' := (b1.alloc (.cells #[.int .i8 x, .int .i8 y] 65)).alloc (.cells (FC zeroF) 33)
  have b3 := Blk.new ((w.alloc (.cells (FC f) 33)).alloc (.cells #[.int .i8 x, .int .i8 y] 65)) 33 zeroF
  rw [World.size_alloc, World.size_alloc] at b3
  have c1 := b1'.cell hy
  have f1 := b1'.free y
  have hfy := hf y
  have hop := u16_or_pow hfy (show x < 16 by omega)
  rw [FC_zero] at c1 f1
  go_enter Tryd.func75, Tryd.ntmps75
  go_wp2
  go_region
  rw [← FC_zero, FC_set f _ hy]
  have a1 := ((Blk.new w 33 (upd f y (f y ||| 2 ^ x))).alloc (.cells #[.int .i8 x, .int .i8 y] 65)).alloc (.cells (FC zeroF) 33)
  have a3 := Blk.new ((w.alloc (.cells (FC (upd f y (f y ||| 2 ^ x))) 33)).alloc (.cells #[.int .i8 x, .int .i8 y] 65)) 33 zeroF
  rw [World.size_alloc, World.size_alloc] at a3
  have hb := (((Below.refl w.heap.size w).alloc (Nat.le_refl _) (.cells (FC (upd f y (f y ||| 2 ^ x))) 33)).alloc (by simp) (.cells #[.int .i8 x, .int .i8 y] 65)).alloc (by simp; omega) (.cells (FC zeroF) 33)
  have b1'' := a1.drew
  have b3'' := a3.drew
  have hb'' := hb.drew
  generalize (World.alloc _ (.cells (FC zeroF) 33)).drew = w1 at b1'' b3'' hb'' ⊢
  clear a1 a3 hb c1 f1 hop b1 b1' b3
  go_wp2_with (first | (refine wpList_load_fr rfl 33 28 _ rfl _ rfl b1'' Tryd.underlying33 (by kernel_rfl) ?_) | (refine wpList_store_fr rfl 33 _ _ rfl _ rfl b3'' rfl (by kernel_rfl) ?_))
  refine bodyPost_ret_fr (p := 4) (ty := 33) (e := 28) rfl rfl (b3''.setRow _) Tryd.underlying33 (by kernel_rfl) rfl ⟨?_, below_setRow hb'' (by omega) _⟩
  have hp : plB (x : Int) (y : Int) = true := plB_iff.2 (by omega)
  simp only [putF, hp, if_true, Int.toNat_natCast]
end Go.Proofs.YtennmnkjdchbhacDoor
