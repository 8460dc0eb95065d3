/- impl: Frame.inverted, ValidFrame. -/
import Derived.Test.YtjbjbdkmomkclabRows
import Derived.Test.YtjbjbdkmomkclabFr
import Derived.Test.YtjbjbdkmomkclabIMeet
namespace Go.Proofs.Ytjbjbdkmomkclab
set_option maxRecDepth 100000
open Go.RowKit
set_option maxHeartbeats 400000 in
theorem inverted_any (f : Nat → Nat) (hf : ∀ k, f k < 65536) (w : World) :
    Calls Try.prog 118 #[.agg (FC f)] w fun e w' => e = .returned (.agg (FC (invF f))) ∧ Below w.heap.size w w' := by
  go_enter Try.func118, Try.ntmps118
  have b1 := Blk.new w 65 f
  have b2 := Blk.new (w.alloc (.cells (FC f) 65)) 65 zeroF
  have b1' := b1.alloc (.cells (FC zeroF) 65)
  have hb := ((Below.refl w.heap.size w).alloc (Nat.le_refl _) (.cells (FC f) 65)).alloc (by simp) (.cells (FC zeroF) 65)
  rw [World.size_alloc] at b2
  clear b1
  rw [FC_zero] at b1' b2 hb
  go_wp2
  generalize ((w.alloc (.cells (FC f) 65)).alloc _) = w1 at *
  go_loopw [4] (fun i wr => ∃ k : Nat, k ≤ 12 ∧ i = .int .i64 k ∧ Blk wr w.heap.size 65 (fun y => if y < k then invF f y else f y) ∧ Blk wr (w.heap.size + 1) 65 zeroF ∧ Below w.heap.size w wr) (fun i _ => 12 - (intOf i).toNat)
  case atStart => exact ⟨0, by omega, rfl, b1'.ext (by simp), b2, hb⟩
  case round =>
    obtain ⟨k, hk, rfl, h1, h2, hb⟩ := hrel
    by_cases hlt : k < 12
    · have c1 := h1.cell hlt
      rw [if_neg (Nat.lt_irrefl k)] at c1
      have f1 := h1.free k
      have hop := u16_xor_nat (f k) 4095 (hf k) (by omega)
      have hop : bits .xor .u16 (f k : Int) 4095 = ((f k ^^^ 4095 : Nat) : Int) := hop
      go_wp2
      go_roundw
      case rel =>
        go_light
        refine ⟨k + 1, by omega, by go_num, (h1.set hlt _).ext ?_, h2.other _ (by show _ ≠ w.heap.size; omega), hb.setCell (Nat.le_refl _) _⟩
        intro j hj
        unfold upd
        by_cases e : j = k
        · subst e; simp [invF]
        · rw [if_neg e]; simp only [show j < k + 1 ↔ j < k by omega]
      case measure => simp [intOf]; omega
    · go_wp2_with (first | (refine wpList_load_fr rfl 65 57 _ rfl _ rfl h1 Try.underlying65 (by kernel_rfl) ?_) | (refine wpList_store_fr rfl 65 _ _ rfl _ rfl h2 rfl (by kernel_rfl) ?_))
      refine bodyPost_ret_fr (p := 2) (ty := 65) (e := 57) rfl rfl (h2.setRow _) Try.underlying65 (by kernel_rfl) rfl ⟨?_, below_setRow hb (by omega) _⟩
      congr 2
      exact FC_ext (fun j hj => by rw [if_pos (by omega)])
theorem valid_eq (f : Nat → Nat) (hf : ∀ k, f k < 65536) : eqF (meetF f fullF) f = okF f := by
  have key : ∀ y, (meetF f fullF y = f y) ↔ f y ≤ 4095 := by
    intro y
    unfold meetF fullF
    rw [show 4095 = 2 ^ 12 - 1 by rfl, Nat.and_two_pow_sub_one_eq_mod]
    have := hf y
    omega
  rw [Bool.eq_iff_iff, eqF_iff, okF_iff]
  exact ⟨fun h y hy => (key y).1 (h y hy), fun h y hy => (key y).2 (h y hy)⟩
theorem build_fr (w : World) : (Instr.build 65 #[]).run Try.prog w = .ok (.agg (FC zeroF)) w := by kernel_rfl
set_option maxHeartbeats 400000 in
theorem valid_any (f : Nat → Nat) (hf : ∀ k, f k < 65536) (w : World) :
    Calls Try.prog 95 #[.agg (FC f)] w fun e w' => e = .returned (.bool (okF f)) ∧ Below w.heap.size w w' := by
  obtain ⟨i0, hi0⟩ : ∃ i, Try.prog.info? 57 = some i := ⟨_, rfl⟩
  have b1 := Blk.new w 65 f
  have cI := fun w => inverted_any zeroF zeroF_lt w
  rw [invF_zero] at cI
  have cM := fun w => meet_any f fullF hf fullF_lt w
  have he := fun w => run_eql_fr (P := Try.prog) w (meetF f fullF) f Try.underlying65 (by kernel_rfl) Try.underlying57 hi0 (by kernel_rfl)
  rw [valid_eq f hf] at he
  have hbl := build_fr
  clear hi0
  go_enter Try.func95, Try.ntmps95
  go_wp2
  refine wp_region_quiet_below (by kernel_rfl) (by kernel_rfl) ?_
  repeat (first | (refine wpQuiet_load_fr rfl 65 57 _ rfl _ rfl b1 Try.underlying65 (by kernel_rfl) ?_) | quiet_step (first | exact Calls.regrown_of (cI _) | exact Calls.regrown_of (cM _)))
  refine wpQuiet_nil ?_
  intro _ hw'
  obtain ⟨⟨dq, osq⟩, hw''⟩ := hw'
  subst hw''
  go_wp2
  go_ret
  exact ⟨rfl, ((Below.refl _ _).alloc (Nat.le_refl _) _).trans ((below_regrown _ dq osq).mono (by simp))⟩
end Go.Proofs.Ytjbjbdkmomkclab
