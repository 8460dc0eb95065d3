/- MORPHS. impl: morphed. -/
import Derived.Test.YtennmnkjdchbhaaIMor
import Derived.Test.YtennmnkjdchbhaaIUnlike
import Derived.Test.YtennmnkjdchbhaaCount
import Derived.Test.YtennmnkjdchbhaaQuiet
namespace Go.Proofs.Ytennmnkjdchbhaa
set_option maxRecDepth 100000
open Go.RowKit
set_option linter.unusedVariables false
set_option linter.unusedSimpArgs false
/-- How many places are changed: the numbers that come up. -/
theorem mor_nums {d s t : Nat} (hd : d ≤ 192) (hs : s ≤ t) (ht : 1 ≤ t) (ht2 : t ≤ 200) : IntKind.i64.wrap ((d : Int) * (s : Int)) = ((d * s : Nat) : Int) ∧ wrap64 (((d * s : Nat) : Int) / (t : Int)) = ((d * s / t : Nat) : Int) ∧ ((t : Int) == 0) = false ∧ d * s ≤ 38400 ∧ d * s / t ≤ 192 ∧ IntKind.i64.wrap (((d * s : Nat) : Int) / (t : Int)) = ((d * s / t : Nat) : Int) ∧ (t = 0) = False := by
  have h1 : d * s ≤ 192 * 200 := Nat.mul_le_mul hd (by omega)
  have h2 : d * s / t ≤ d := by
    rw [Nat.div_le_iff_le_mul_add_pred (by omega)]
    have : d * s ≤ d * t := Nat.mul_le_mul_left _ hs
    rw [Nat.mul_comm t d]; omega
  refine ⟨?_, ?_, by simp; omega, by omega, by omega, ?_, by simp; omega⟩
  · rw [← Int.natCast_mul]; exact IntWalk.i64_in _ (by omega)
  · rw [← Int.natCast_ediv]
    generalize d * s / t = q at *
    exact IntWalk.wrap64_in _ (by omega)
  · rw [← Int.natCast_ediv]
    generalize d * s / t = q at *
    exact IntWalk.i64_in _ (by omega)
set_option maxHeartbeats 2000000 in
theorem morphed_nat (a b : Nat → Nat) (s t : Nat) (ha : ∀ k, a k < 65536) (hb : ∀ k, b k < 65536) (hs : s ≤ t) (ht : 1 ≤ t) (ht2 : t ≤ 200) (w : World) :
    Calls Try.prog 74 #[.agg (FC a), .agg (FC b), .int .i64 s, .int .i64 t] w fun e w' => e = .returned (.agg (FC (morF a b s t))) ∧ Below w.heap.size w w' := by
  have hu := unlikeF_lt ha hb
  obtain ⟨kp, kq, kz, hp, hn, kr, kt⟩ := mor_nums (difN_le a b) hs ht ht2
  have cF := fun W => first_any (unlikeF a b) (morN a b s t) hu (by unfold morN; omega) W
  have cC := fun W => count_any (unlikeF a b) hu W
  have cU := fun W => unlike_any a (mk (unlikeF a b) (morN a b s t) 144) ha (fun k => Nat.lt_trans (mk_lt _ _ _ k) (by decide)) W
  have cU1 := fun W => unlike_any a b ha hb W
  have hN : morN a b s t = difN a b * s / t := rfl
  have hm : morF a b s t = unlikeF a (mk (unlikeF a b) (morN a b s t) 144) := rfl
  rw [hm]
  rw [show popSum (unlikeF a b) 12 = difN a b from rfl] at cC
  rw [← hN] at kq kr
  have HP := Lib.hid hp
  clear hm hN hn hp
  have b1 := ((Blk.new w 50 a).alloc (.cells (FC b) 50)).alloc (.cells (FC zeroF) 50)
  have b2 := (Blk.new (w.alloc (.cells (FC a) 50)) 50 b).alloc (.cells (FC zeroF) 50)
  have b3 := Blk.new ((w.alloc (.cells (FC a) 50)).alloc (.cells (FC b) 50)) 50 zeroF
  rw [World.size_alloc] at b2
  rw [World.size_alloc, World.size_alloc] at b3
  have h0 := (((Below.refl w.heap.size w).alloc (Nat.le_refl _) (.cells (FC a) 50)).alloc (by simp) (.cells (FC b) 50)).alloc (by simp; omega) (.cells (FC zeroF) 50)
  rw [FC_zero] at b1 b2 b3 h0
  generalize difN a b * s = p at *
  generalize difN a b = d at *
  generalize morN a b s t = n at *
  have CF := Lib.hid cF
  have CC := Lib.hid cC
  have CU := Lib.hid cU
  have CU1 := Lib.hid cU1
  clear cF cC cU cU1
  go_enter Try.func74, Try.ntmps74
  go_wp2_with (first | (refine wpList_load_fr rfl 50 48 _ rfl _ rfl b1 Try.underlying50 (by kernel_rfl) ?_) | (refine wpList_load_fr rfl 50 48 _ rfl _ rfl b2 Try.underlying50 (by kernel_rfl) ?_) | (go_at_call 94; refine (CU1.out _).mono ?_; rintro e w2 ⟨rfl, hb2⟩; replace b1 := b1.below hb2 b1.lt; replace b3 := b3.below hb2 b3.lt; replace h0 := grown_below h0 hb2 h0.size; clear b2 hb2) | (refine wpList_store_new (f0 := zeroF) rfl 50 _ _ rfl rfl rfl (by kernel_rfl) ?_))
  have hg := h0.size
  have b4 := Blk.new w2 50 (unlikeF a b)
  replace b1 := b1.alloc (.cells (FC (unlikeF a b)) 50)
  replace b3 := b3.alloc (.cells (FC (unlikeF a b)) 50)
  replace h0 := h0.alloc hg (.cells (FC (unlikeF a b)) 50)
  generalize (w2.alloc (.cells (FC (unlikeF a b)) 50)) = w3 at *
  generalize w2.heap.size = g at *
  go_wp2_with fail
  refine wp_region_tail 10 (by kernel_rfl) (by kernel_rfl) ?_
  simp only [List.take_succ_cons, List.take_zero, List.drop_succ_cons, List.drop_zero]
  repeat (first | (refine wpQuiet_load_fr rfl 50 48 _ rfl _ rfl (by first | exact b1 | exact b4) Try.underlying50 (by kernel_rfl) ?_) | quiet_step (first | with_reducible exact Calls.regrown_of (CC.out _) | with_reducible exact Calls.regrown_of (CF.out _) | with_reducible exact Calls.regrown_of (CU.out _)))
  refine wpQuiet_nil ?_
  intro w5 hb5
  replace b3 := b3.below hb5 b3.lt
  replace h0 := grown_below h0 hb5 h0.size
  clear b1 b4 hb5
  go_wp2_with (refine wpList_store_fr rfl 50 _ _ rfl _ rfl b3 rfl (by kernel_rfl) ?_)
  refine bodyPost_ret_fr (p := 8) (ty := 50) (e := 48) rfl rfl (b3.setRow _) Try.underlying50 (by kernel_rfl) rfl ⟨rfl, below_setRow h0 (by omega) _⟩
theorem morphed_any (a b : Nat → Nat) (s t : Int) (ha : ∀ k, a k < 65536) (hb : ∀ k, b k < 65536) (h0 : 0 ≤ s) (hs : s ≤ t) (ht : 1 ≤ t) (ht2 : t ≤ 200) (w : World) :
    Calls Try.prog 74 #[.agg (FC a), .agg (FC b), .int .i64 s, .int .i64 t] w fun e w' => e = .returned (.agg (FC (morF a b s.toNat t.toNat))) ∧ Below w.heap.size w w' := by
  obtain ⟨s, rfl⟩ := Int.eq_ofNat_of_zero_le h0
  obtain ⟨t, rfl⟩ := Int.eq_ofNat_of_zero_le (show 0 ≤ t by omega)
  exact morphed_nat a b s t ha hb (by omega) (by omega) (by omega) w
end Go.Proofs.Ytennmnkjdchbhaa
