import Derived.Test.YtajlkleoincoeacDoorRows
import Derived.Test.YtajlkleoincoeacDoorM2
import Derived.Test.YtajlkleoincoeacDoorM3
/- impl: Frame.meet: two frames, place by place. -/
namespace Go.Proofs.YtajlkleoincoeacDoor
set_option maxRecDepth 100000
open Go.RowKit
set_option maxHeartbeats 400000 in
theorem meet_any (f g : Nat → Nat) (hf : ∀ k, f k < 65536) (hg : ∀ k, g k < 65536) (w : World) :
    Calls Tryd.prog 118 #[.agg (FC f), .agg (FC g)] w fun e w' => e = .returned (.agg (FC (meetF f g))) ∧ Below w.heap.size w w' := by
  obtain ⟨i0, hi0⟩ : ∃ i, Tryd.prog.info? 24 = some i := ⟨_, rfl⟩
  go_enter Tryd.func118, Tryd.ntmps118
  have b1 := Blk.new w 26 f
  have b2 := Blk.new (w.alloc (.cells (FC f) 26)) 26 g
  have b3 := Blk.new ((w.alloc (.cells (FC f) 26)).alloc (.cells (FC g) 26)) 26 zeroF
  have b1' := (b1.alloc (.cells (FC g) 26)).alloc (.cells (FC zeroF) 26)
  have b2' := b2.alloc (.cells (FC zeroF) 26)
  have hb := (((Below.refl w.heap.size w).alloc (Nat.le_refl _) (.cells (FC f) 26)).alloc (by simp) (.cells (FC g) 26)).alloc (by simp; omega) (.cells (FC zeroF) 26)
  rw [World.size_alloc] at b2 b2'
  rw [World.size_alloc, World.size_alloc] at b3
  clear b1 b2
  rw [FC_zero] at b1' b2' b3 hb
  go_wp2_with (refine wpList_load_fr rfl 26 24 _ rfl _ rfl b2' Tryd.underlying26 (by kernel_rfl) ?_)
  generalize (((w.alloc (.cells (FC f) 26)).alloc (.cells (FC g) 26)).alloc _) = w1 at *
  go_loopw [8] (fun i wr => ∃ k : Nat, k ≤ 12 ∧ i = .int .i64 k ∧ Blk wr w.heap.size 26 (fun y => if y < k then meetF f g y else f y) ∧ Blk wr (w.heap.size + 1 + 1) 26 zeroF ∧ Below w.heap.size w wr) (fun i _ => 12 - (intOf i).toNat)
  case atStart => exact ⟨0, by omega, rfl, b1'.ext (by simp), b3, hb⟩
  case round =>
    obtain ⟨k, hk, rfl, h1, h3, hb⟩ := hrel
    by_cases hlt : k < 12
    · have ix := fun w => run_index_fr (P := Tryd.prog) w g hlt Tryd.underlying26 (by kernel_rfl) hi0 (by kernel_rfl)
      have c1 := h1.cell hlt
      rw [if_neg (Nat.lt_irrefl k)] at c1
      have f1 := h1.free k
      have hop := u16_and_nat (f k) (g k) (hf k) (hg k)
      clear hi0
      go_wp2
      go_roundw
      case rel =>
        go_light
        refine ⟨k + 1, by omega, by go_num, (h1.set hlt _).ext ?_, h3.other _ (by show _ ≠ w.heap.size; omega), hb.setCell (Nat.le_refl _) _⟩
        intro j hj
        unfold upd
        by_cases e : j = k
        · subst e; simp [meetF]
        · rw [if_neg e]; simp only [show j < k + 1 ↔ j < k by omega]
      case measure => simp [intOf]; omega
    · go_wp2_with (first | (refine wpList_load_fr rfl 26 24 _ rfl _ rfl h1 Tryd.underlying26 (by kernel_rfl) ?_) | (refine wpList_store_fr rfl 26 _ _ rfl _ rfl h3 rfl (by kernel_rfl) ?_))
      refine bodyPost_ret_fr (p := 4) (ty := 26) (e := 24) rfl rfl (h3.setRow _) Tryd.underlying26 (by kernel_rfl) rfl ⟨?_, below_setRow hb (by omega) _⟩
      congr 2
      exact FC_ext (fun j hj => by rw [if_pos (by omega)])
end Go.Proofs.YtajlkleoincoeacDoor

/- impl: Frame.inverted, ValidFrame. -/
namespace Go.Proofs.YtajlkleoincoeacDoor
set_option maxRecDepth 100000
open Go.RowKit
set_option maxHeartbeats 400000 in
theorem inverted_any (f : Nat → Nat) (hf : ∀ k, f k < 65536) (w : World) :
    Calls Tryd.prog 140 #[.agg (FC f)] w fun e w' => e = .returned (.agg (FC (invF f))) ∧ Below w.heap.size w w' := by
  go_enter Tryd.func140, Tryd.ntmps140
  have b1 := Blk.new w 26 f
  have b2 := Blk.new (w.alloc (.cells (FC f) 26)) 26 zeroF
  have b1' := b1.alloc (.cells (FC zeroF) 26)
  have hb := ((Below.refl w.heap.size w).alloc (Nat.le_refl _) (.cells (FC f) 26)).alloc (by simp) (.cells (FC zeroF) 26)
  rw [World.size_alloc] at b2
  clear b1
  rw [FC_zero] at b1' b2 hb
  go_wp2
  generalize ((w.alloc (.cells (FC f) 26)).alloc _) = w1 at *
  go_loopw [4] (fun i wr => ∃ k : Nat, k ≤ 12 ∧ i = .int .i64 k ∧ Blk wr w.heap.size 26 (fun y => if y < k then invF f y else f y) ∧ Blk wr (w.heap.size + 1) 26 zeroF ∧ Below w.heap.size w wr) (fun i _ => 12 - (intOf i).toNat)
  case atStart => exact ⟨0, by omega, rfl, b1'.ext (by simp), b2, hb⟩
  case round =>
    obtain ⟨k, hk, rfl, h1, h2, hb⟩ := hrel
    by_cases hlt : k < 12
    · have c1 := h1.cell hlt
      rw [if_neg (Nat.lt_irrefl k)] at c1
      have f1 := h1.free k
      have hop := u16_xor_nat (f k) 4095 (hf k) (by omega)
      have hop : bits .xor .u16 (f k : Int) 4095 = ((f k ^^^ 4095 : Nat) : Int) := hop
      go_wp2
      go_roundw
      case rel =>
        go_light
        refine ⟨k + 1, by omega, by go_num, (h1.set hlt _).ext ?_, h2.other _ (by show _ ≠ w.heap.size; omega), hb.setCell (Nat.le_refl _) _⟩
        intro j hj
        unfold upd
        by_cases e : j = k
        · subst e; simp [invF]
        · rw [if_neg e]; simp only [show j < k + 1 ↔ j < k by omega]
      case measure => simp [intOf]; omega
    · go_wp2_with (first | (refine wpList_load_fr rfl 26 24 _ rfl _ rfl h1 Tryd.underlying26 (by kernel_rfl) ?_) | (refine wpList_store_fr rfl 26 _ _ rfl _ rfl h2 rfl (by kernel_rfl) ?_))
      refine bodyPost_ret_fr (p := 2) (ty := 26) (e := 24) rfl rfl (h2.setRow _) Tryd.underlying26 (by kernel_rfl) rfl ⟨?_, below_setRow hb (by omega) _⟩
      congr 2
      exact FC_ext (fun j hj => by rw [if_pos (by omega)])
theorem valid_eq (f : Nat → Nat) (hf : ∀ k, f k < 65536) : eqF (meetF f fullF) f = okF f := by
  have key : ∀ y, (meetF f fullF y = f y) ↔ f y ≤ 4095 := by
    intro y
    unfold meetF fullF
    rw [show 4095 = 2 ^ 12 - 1 by rfl, Nat.and_two_pow_sub_one_eq_mod]
    have := hf y
    omega
  rw [Bool.eq_iff_iff, eqF_iff, okF_iff]
  exact ⟨fun h y hy => (key y).1 (h y hy), fun h y hy => (key y).2 (h y hy)⟩
theorem build_fr (w : World) : (Instr.build 26 #[]).run Tryd.prog w = .ok (.agg (FC zeroF)) w := by kernel_rfl
set_option maxHeartbeats 400000 in
theorem valid_any (f : Nat → Nat) (hf : ∀ k, f k < 65536) (w : World) :
    Calls Tryd.prog 112 #[.agg (FC f)] w fun e w' => e = .returned (.bool (okF f)) ∧ Below w.heap.size w w' := by
  obtain ⟨i0, hi0⟩ : ∃ i, Tryd.prog.info? 24 = some i := ⟨_, rfl⟩
  have b1 := Blk.new w 26 f
  have cI := fun w => inverted_any zeroF zeroF_lt w
  rw [invF_zero] at cI
  have cM := fun w => meet_any f fullF hf fullF_lt w
  have he := fun w => run_eql_fr (P := Tryd.prog) w (meetF f fullF) f Tryd.underlying26 (by kernel_rfl) Tryd.underlying24 hi0 (by kernel_rfl)
  rw [valid_eq f hf] at he
  have hbl := build_fr
  clear hi0
  go_enter Tryd.func112, Tryd.ntmps112
  go_wp2
  refine wp_region_quiet_below (by kernel_rfl) (by kernel_rfl) ?_
  repeat (first | (refine wpQuiet_load_fr rfl 26 24 _ rfl _ rfl b1 Tryd.underlying26 (by kernel_rfl) ?_) | quiet_step (first | exact Calls.regrown_of (cI _) | exact Calls.regrown_of (cM _)))
  refine wpQuiet_nil ?_
  intro _ hw'
  obtain ⟨⟨dq, osq⟩, hw''⟩ := hw'
  subst hw''
  go_wp2
  go_ret
  exact ⟨rfl, ((Below.refl _ _).alloc (Nat.le_refl _) _).trans ((below_regrown _ dq osq).mono (by simp))⟩
end Go.Proofs.YtajlkleoincoeacDoor

/- The number of dots: impl's Frame.count; spec's l01Count is the length of the list of dots. -/
namespace Go.Proofs.YtajlkleoincoeacDoor
set_option maxRecDepth 100000
open Go.RowKit
set_option maxHeartbeats 400000 in
theorem count_any (f : Nat → Nat) (hf : ∀ k, f k < 65536) (w : World) :
    Calls Tryd.prog 77 #[.agg (FC f)] w fun e w' => e = .returned (.int .i64 (popSum f 12)) ∧ Below w.heap.size w w' := by
  obtain ⟨i0, hi0⟩ : ∃ i, Tryd.prog.info? 24 = some i := ⟨_, rfl⟩
  have b1 := Blk.new w 26 f
  have h0 := (Below.refl w.heap.size w).alloc (Nat.le_refl _) (.cells (FC f) 26)
  go_enter Tryd.func77, Tryd.ntmps77
  go_wp2_with (refine wpList_load_fr rfl 26 24 _ rfl _ rfl b1 Tryd.underlying26 (by kernel_rfl) ?_)
  generalize w.alloc (.cells (FC f) 26) = w1 at *
  clear b1
  go_loopw [3, 7] (fun s i wr => ∃ k : Nat, k ≤ 12 ∧ i = .int .i64 k ∧ s = .int .i64 (popSum f k) ∧ Below w.heap.size w wr) (fun _ i _ => 12 - (intOf i).toNat)
  case atStart => exact ⟨0, by omega, rfl, rfl, h0⟩
  case round =>
    obtain ⟨k, hk, rfl, rfl, hb⟩ := hrel
    by_cases hlt : k < 12
    · have ix := fun w => run_index_fr (P := Tryd.prog) w f hlt Tryd.underlying26 (by kernel_rfl) hi0 (by kernel_rfl)
      have hs := popSum_le f k
      have hp := popTo_le (f k) 16
      have hp' : pop (f k) ≤ 16 := hp
      clear hi0 hp
      go_wp2_with (go_at_call 117; refine (ones16_any _ (hf k) _).mono ?_; rintro e w2 ⟨rfl, nk, rfl⟩)
      go_roundw
      case rel =>
        go_light
        refine ⟨k + 1, by omega, by go_num, ?_, below_drewN hb _⟩
        show Value.int .i64 ((popSum f k : Int) + (pop (f k) : Int)) = Value.int .i64 ((popSum f k + pop (f k) : Nat) : Int)
        congr 1
      case measure => simp [intOf]; omega
    · have h12 : k = 12 := by omega
      subst h12
      go_wp2
      go_ret
      exact ⟨rfl, hb⟩
set_option maxHeartbeats 400000 in
theorem l01Count_any (B : Nat) (f : Nat → Nat) (w : World) (hf : ∀ k, f k < 65536) (hB : Blk w B 26 f) :
    Calls Tryd.prog 141 #[.pointer (some ⟨B, 0, none⟩)] w fun e w' => e = .returned (.int .i64 (dots f).length) ∧ Below w.heap.size w w' := by
  go_enter Tryd.func141, Tryd.ntmps141
  go_wp2_with (go_at_call 142; refine (dots_any B f _ hf hB).mono ?_; rintro e w1 ⟨v, rfl, hown, hb⟩; obtain ⟨_, ⟨rfl, hl⟩ | ⟨g, cap, cur, rfl, _⟩⟩ := hown)
  · go_ret
    exact ⟨ret_int (by omega), hb⟩
  · go_ret
    exact ⟨rfl, hb⟩
/-- CountDots's number. -/
def cntV (f : Nat → Nat) : Int := if okF f then popSum f 12 else 0
end Go.Proofs.YtajlkleoincoeacDoor

/- MORPHS. impl: morphed. -/
namespace Go.Proofs.YtajlkleoincoeacDoor
set_option maxRecDepth 100000
open Go.RowKit
set_option linter.unusedVariables false
set_option linter.unusedSimpArgs false
/-- How many places are changed: the numbers that come up. -/
theorem mor_nums {d s t : Nat} (hd : d ≤ 192) (hs : s ≤ t) (ht : 1 ≤ t) (ht2 : t ≤ 200) : IntKind.i64.wrap ((d : Int) * (s : Int)) = ((d * s : Nat) : Int) ∧ wrap64 (((d * s : Nat) : Int) / (t : Int)) = ((d * s / t : Nat) : Int) ∧ ((t : Int) == 0) = false ∧ d * s ≤ 38400 ∧ d * s / t ≤ 192 ∧ IntKind.i64.wrap (((d * s : Nat) : Int) / (t : Int)) = ((d * s / t : Nat) : Int) ∧ (t = 0) = False := by
  have h1 : d * s ≤ 192 * 200 := Nat.mul_le_mul hd (by omega)
  have h2 : d * s / t ≤ d := by
    rw [Nat.div_le_iff_le_mul_add_pred (by omega)]
    have : d * s ≤ d * t := Nat.mul_le_mul_left _ hs
    rw [Nat.mul_comm t d]; omega
  refine ⟨?_, ?_, by simp; omega, by omega, by omega, ?_, by simp; omega⟩
  · rw [← Int.natCast_mul]; exact IntWalk.i64_in _ (by omega)
  · rw [← Int.natCast_ediv]
    generalize d * s / t = q at *
    exact IntWalk.wrap64_in _ (by omega)
  · rw [← Int.natCast_ediv]
    generalize d * s / t = q at *
    exact IntWalk.i64_in _ (by omega)
set_option maxHeartbeats 2000000 in
theorem morphed_nat (a b : Nat → Nat) (s t : Nat) (ha : ∀ k, a k < 65536) (hb : ∀ k, b k < 65536) (hs : s ≤ t) (ht : 1 ≤ t) (ht2 : t ≤ 200) (w : World) :
    Calls Tryd.prog 71 #[.agg (FC a), .agg (FC b), .int .i64 s, .int .i64 t] w fun e w' => e = .returned (.agg (FC (morF a b s t))) ∧ Below w.heap.size w w' := by
  have hu := unlikeF_lt ha hb
  obtain ⟨kp, kq, kz, hp, hn, kr, kt⟩ := mor_nums (difN_le a b) hs ht ht2
  have cF := fun W => first_any (unlikeF a b) (morN a b s t) hu (by unfold morN; omega) W
  have cC := fun W => count_any (unlikeF a b) hu W
  have cU := fun W => unlike_any a (mk (unlikeF a b) (morN a b s t) 144) ha (fun k => Nat.lt_trans (mk_lt _ _ _ k) (by decide)) W
  have cU1 := fun W => unlike_any a b ha hb W
  have hN : morN a b s t = difN a b * s / t := rfl
  have hm : morF a b s t = unlikeF a (mk (unlikeF a b) (morN a b s t) 144) := rfl
  rw [hm]
  rw [show popSum (unlikeF a b) 12 = difN a b from rfl] at cC
  rw [← hN] at kq kr
  have HP := Lib.hid hp
  clear hm hN hn hp
  have b1 := ((Blk.new w 26 a).alloc (.cells (FC b) 26)).alloc (.cells (FC zeroF) 26)
  have b2 := (Blk.new (w.alloc (.cells (FC a) 26)) 26 b).alloc (.cells (FC zeroF) 26)
  have b3 := Blk.new ((w.alloc (.cells (FC a) 26)).alloc (.cells (FC b) 26)) 26 zeroF
  rw [World.size_alloc] at b2
  rw [World.size_alloc, World.size_alloc] at b3
  have h0 := (((Below.refl w.heap.size w).alloc (Nat.le_refl _) (.cells (FC a) 26)).alloc (by simp) (.cells (FC b) 26)).alloc (by simp; omega) (.cells (FC zeroF) 26)
  rw [FC_zero] at b1 b2 b3 h0
  generalize difN a b * s = p at *
  generalize difN a b = d at *
  generalize morN a b s t = n at *
  have CF := Lib.hid cF
  have CC := Lib.hid cC
  have CU := Lib.hid cU
  have CU1 := Lib.hid cU1
  clear cF cC cU cU1
  go_enter Tryd.func71, Tryd.ntmps71
  go_wp2_with (first | (refine wpList_load_fr rfl 26 24 _ rfl _ rfl b1 Tryd.underlying26 (by kernel_rfl) ?_) | (refine wpList_load_fr rfl 26 24 _ rfl _ rfl b2 Tryd.underlying26 (by kernel_rfl) ?_) | (go_at_call 76; refine (CU1.out _).mono ?_; rintro e w2 ⟨rfl, hb2⟩; replace b1 := b1.below hb2 b1.lt; replace b3 := b3.below hb2 b3.lt; replace h0 := grown_below h0 hb2 h0.size; clear b2 hb2) | (refine wpList_store_new (f0 := zeroF) rfl 26 _ _ rfl rfl rfl (by kernel_rfl) ?_))
  have hg := h0.size
  have b4 := Blk.new w2 26 (unlikeF a b)
  replace b1 := b1.alloc (.cells (FC (unlikeF a b)) 26)
  replace b3 := b3.alloc (.cells (FC (unlikeF a b)) 26)
  replace h0 := h0.alloc hg (.cells (FC (unlikeF a b)) 26)
  generalize (w2.alloc (.cells (FC (unlikeF a b)) 26)) = w3 at *
  generalize w2.heap.size = g at *
  go_wp2_with fail
  refine wp_region_tail 10 (by kernel_rfl) (by kernel_rfl) ?_
  simp only [List.take_succ_cons, List.take_zero, List.drop_succ_cons, List.drop_zero]
  repeat (first | (refine wpQuiet_load_fr rfl 26 24 _ rfl _ rfl (by first | exact b1 | exact b4) Tryd.underlying26 (by kernel_rfl) ?_) | quiet_step (first | with_reducible exact Calls.regrown_of (CC.out _) | with_reducible exact Calls.regrown_of (CF.out _) | with_reducible exact Calls.regrown_of (CU.out _)))
  refine wpQuiet_nil ?_
  intro w5 hb5
  replace b3 := b3.below hb5 b3.lt
  replace h0 := grown_below h0 hb5 h0.size
  clear b1 b4 hb5
  go_wp2_with (refine wpList_store_fr rfl 26 _ _ rfl _ rfl b3 rfl (by kernel_rfl) ?_)
  refine bodyPost_ret_fr (p := 8) (ty := 26) (e := 24) rfl rfl (b3.setRow _) Tryd.underlying26 (by kernel_rfl) rfl ⟨rfl, below_setRow h0 (by omega) _⟩
theorem morphed_any (a b : Nat → Nat) (s t : Int) (ha : ∀ k, a k < 65536) (hb : ∀ k, b k < 65536) (h0 : 0 ≤ s) (hs : s ≤ t) (ht : 1 ≤ t) (ht2 : t ≤ 200) (w : World) :
    Calls Tryd.prog 71 #[.agg (FC a), .agg (FC b), .int .i64 s, .int .i64 t] w fun e w' => e = .returned (.agg (FC (morF a b s.toNat t.toNat))) ∧ Below w.heap.size w w' := by
  obtain ⟨s, rfl⟩ := Int.eq_ofNat_of_zero_le h0
  obtain ⟨t, rfl⟩ := Int.eq_ofNat_of_zero_le (show 0 ≤ t by omega)
  exact morphed_nat a b s t ha hb (by omega) (by omega) (by omega) w
end Go.Proofs.YtajlkleoincoeacDoor
