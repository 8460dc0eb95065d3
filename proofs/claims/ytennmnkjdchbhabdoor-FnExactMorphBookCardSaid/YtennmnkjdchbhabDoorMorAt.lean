/- MORPHS, asked for: checkMorph, MorphAt; spec's MorphAt. -/
import Derived.Test.YtennmnkjdchbhabDoorSMor
import Derived.Test.YtennmnkjdchbhabDoorIEase
import Derived.Test.YtennmnkjdchbhabDoorIPlaceAt
import Derived.Test.YtennmnkjdchbhabDoorIValid
import Derived.Test.YtennmnkjdchbhabDoorWithDot
namespace Go.Proofs.YtennmnkjdchbhabDoor
set_option maxRecDepth 100000
open Go.RowKit
set_option linter.unusedVariables false
set_option linter.unusedSimpArgs false
/-- The code of two frames and a step between them. -/
def morC (a b : Nat → Nat) (s t : Int) : Int := if okF a && okF b then (if inB t 1 200 && inB s 0 t then 0 else 2) else 1
theorem morC_cases (a b : Nat → Nat) (s t : Int) : (okF a = false ∧ morC a b s t = 1) ∨ (okF a = true ∧ okF b = false ∧ morC a b s t = 1) ∨ (okF a = true ∧ okF b = true ∧ inB t 1 200 = false ∧ morC a b s t = 2) ∨ (okF a = true ∧ okF b = true ∧ inB t 1 200 = true ∧ inB s 0 t = false ∧ morC a b s t = 2) ∨ (okF a = true ∧ okF b = true ∧ inB t 1 200 = true ∧ inB s 0 t = true ∧ morC a b s t = 0) := by
  unfold morC; cases okF a <;> cases okF b <;> cases inB t 1 200 <;> cases inB s 0 t <;> simp
theorem morC_in (a b : Nat → Nat) (s t : Int) : 0 ≤ morC a b s t ∧ morC a b s t ≤ 5 := by
  rcases morC_cases a b s t with ⟨_, h⟩ | ⟨_, _, h⟩ | ⟨_, _, _, h⟩ | ⟨_, _, _, _, h⟩ | ⟨_, _, _, _, h⟩ <;> omega
theorem morC_zero {a b : Nat → Nat} {s t : Int} (h : morC a b s t = 0) : okF a = true ∧ okF b = true ∧ inB t 1 200 = true ∧ inB s 0 t = true := by
  rcases morC_cases a b s t with ⟨_, h'⟩ | ⟨_, _, h'⟩ | ⟨_, _, _, h'⟩ | ⟨_, _, _, _, h'⟩ | ⟨h1, h2, h3, h4, _⟩
  · omega
  · omega
  · omega
  · omega
  · exact ⟨h1, h2, h3, h4⟩
theorem morC_ne {a b : Nat → Nat} {s t : Int} (h : morC a b s t ≠ 0) : morC a b s t = 1 ∨ morC a b s t = 2 := by
  rcases morC_cases a b s t with ⟨_, h'⟩ | ⟨_, _, h'⟩ | ⟨_, _, _, h'⟩ | ⟨_, _, _, _, h'⟩ | ⟨_, _, _, _, h'⟩ <;> omega
set_option maxHeartbeats 1000000 in
theorem checkMorph_any (a b : Nat → Nat) (s t : Int) (sa : Nat → Addr) (w : World) (ha : ∀ k, a k < 65536) (hb : ∀ k, b k < 65536) (hs : Sent w sa) :
    Calls Tryd.prog 61 #[.agg (FC a), .agg (FC b), .int .i64 s, .int .i64 t] w fun e w' => e = .returned (errV sa (morC a b s t)) ∧ Below w.heap.size w w' := by
  have cA := fun w => valid_any a ha w
  have cB := fun w => valid_any b hb w
  have cS := fun w => isStep_any s t w
  have b1 := (Blk.new w 38 a).alloc (.cells (FC b) 38)
  have b2 := Blk.new (w.alloc (.cells (FC a) 38)) 38 b
  rw [World.size_alloc] at b2
  have h0 := ((Below.refl w.heap.size w).alloc (Nat.le_refl _) (.cells (FC a) 38)).alloc (by simp) (.cells (FC b) 38)
  rcases morC_cases a b s t with ⟨h1, hc⟩ | ⟨h1, h2, hc⟩ | ⟨h1, h2, h3, hc⟩ | ⟨h1, h2, h3, h4, hc⟩ | ⟨h1, h2, h3, h4, hc⟩
  · rw [h1] at cA
    rw [hc, errV1]
    clear hc h1
    go_enter Tryd.func61, Tryd.ntmps61
    go_wp2_with (refine wpList_load_fr rfl 38 36 _ rfl _ rfl b1 Tryd.underlying38 (by kernel_rfl) ?_)
    generalize ((w.alloc _).alloc _) = w0 at *
    refine (cA _).mono ?_
    rintro e w1 ⟨rfl, hb1⟩
    replace b2 := b2.below hb1 b2.lt
    replace h0 := grown_below h0 hb1 h0.size
    clear hb1
    have q0 := (hs.below h0).var0
    clear cA cB cS hs
    go_wp2
    go_ret
    exact ⟨rfl, h0⟩
  · rw [h1] at cA
    rw [h2] at cB
    rw [hc, errV1]
    clear hc h1 h2
    go_enter Tryd.func61, Tryd.ntmps61
    go_wp2_with (refine wpList_load_fr rfl 38 36 _ rfl _ rfl b1 Tryd.underlying38 (by kernel_rfl) ?_)
    generalize ((w.alloc _).alloc _) = w0 at *
    refine (cA _).mono ?_
    rintro e w1 ⟨rfl, hb1⟩
    replace b2 := b2.below hb1 b2.lt
    replace h0 := grown_below h0 hb1 h0.size
    clear hb1
    go_wp2_with (refine wpList_load_frG rfl 38 36 _ rfl _ rfl b2 Tryd.underlying38 (by kernel_rfl) ?_)
    refine (cB _).mono ?_
    rintro e w2 ⟨rfl, hb2⟩
    replace h0 := grown_below h0 hb2 h0.size
    clear hb2
    have q0 := (hs.below h0).var0
    clear cA cB hs
    go_wp2
    go_ret
    exact ⟨rfl, h0⟩
  · rw [h1] at cA
    rw [h2] at cB
    rw [h3] at cS
    rw [Bool.false_and] at cS
    rw [hc, errV2]
    clear hc h1 h2 h3
    go_enter Tryd.func61, Tryd.ntmps61
    go_wp2_with (refine wpList_load_fr rfl 38 36 _ rfl _ rfl b1 Tryd.underlying38 (by kernel_rfl) ?_)
    generalize ((w.alloc _).alloc _) = w0 at *
    refine (cA _).mono ?_
    rintro e w1 ⟨rfl, hb1⟩
    replace b2 := b2.below hb1 b2.lt
    replace h0 := grown_below h0 hb1 h0.size
    clear hb1
    go_wp2_with (refine wpList_load_frG rfl 38 36 _ rfl _ rfl b2 Tryd.underlying38 (by kernel_rfl) ?_)
    refine (cB _).mono ?_
    rintro e w2 ⟨rfl, hb2⟩
    replace h0 := grown_below h0 hb2 h0.size
    clear hb2
    have q0 := (hs.below h0).var1
    clear cA cB hs
    go_wp2_with (go_at_call 89; refine (cS _).mono ?_; rintro e w' ⟨rfl, rfl⟩)
    go_ret
    exact ⟨rfl, h0⟩
  · rw [h1] at cA
    rw [h2] at cB
    rw [h3, h4] at cS
    rw [Bool.true_and] at cS
    rw [hc, errV2]
    clear hc h1 h2 h3 h4
    go_enter Tryd.func61, Tryd.ntmps61
    go_wp2_with (refine wpList_load_fr rfl 38 36 _ rfl _ rfl b1 Tryd.underlying38 (by kernel_rfl) ?_)
    generalize ((w.alloc _).alloc _) = w0 at *
    refine (cA _).mono ?_
    rintro e w1 ⟨rfl, hb1⟩
    replace b2 := b2.below hb1 b2.lt
    replace h0 := grown_below h0 hb1 h0.size
    clear hb1
    go_wp2_with (refine wpList_load_frG rfl 38 36 _ rfl _ rfl b2 Tryd.underlying38 (by kernel_rfl) ?_)
    refine (cB _).mono ?_
    rintro e w2 ⟨rfl, hb2⟩
    replace h0 := grown_below h0 hb2 h0.size
    clear hb2
    have q0 := (hs.below h0).var1
    clear cA cB hs
    go_wp2_with (go_at_call 89; refine (cS _).mono ?_; rintro e w' ⟨rfl, rfl⟩)
    go_ret
    exact ⟨rfl, h0⟩
  · rw [h1] at cA
    rw [h2] at cB
    rw [h3, h4] at cS
    rw [Bool.true_and] at cS
    rw [hc, errV0]
    clear hc h1 h2 h3 h4
    go_enter Tryd.func61, Tryd.ntmps61
    go_wp2_with (refine wpList_load_fr rfl 38 36 _ rfl _ rfl b1 Tryd.underlying38 (by kernel_rfl) ?_)
    generalize ((w.alloc _).alloc _) = w0 at *
    refine (cA _).mono ?_
    rintro e w1 ⟨rfl, hb1⟩
    replace b2 := b2.below hb1 b2.lt
    replace h0 := grown_below h0 hb1 h0.size
    clear hb1
    go_wp2_with (refine wpList_load_frG rfl 38 36 _ rfl _ rfl b2 Tryd.underlying38 (by kernel_rfl) ?_)
    refine (cB _).mono ?_
    rintro e w2 ⟨rfl, hb2⟩
    replace h0 := grown_below h0 hb2 h0.size
    clear hb2
    clear cA cB hs
    go_wp2_with (go_at_call 89; refine (cS _).mono ?_; rintro e w' ⟨rfl, rfl⟩)
    go_ret
    exact ⟨rfl, h0⟩
set_option maxHeartbeats 1000000 in
theorem implMorphAt_any (a b : Nat → Nat) (s t : Int) (sa : Nat → Addr) (w : World) (ha : ∀ k, a k < 65536) (hb : ∀ k, b k < 65536) (hs : Sent w sa) :
    Calls Tryd.prog 29 #[.agg (FC a), .agg (FC b), .int .i64 s, .int .i64 t] w fun e w' => e = .returned (.tuple #[.agg (FC (ifC (morC a b s t) (morF a b s.toNat t.toNat))), .int .i64 (morC a b s t)]) ∧ Below w.heap.size w w' := by
  have cM := fun (W : World) (hB : Below w.heap.size w W) => checkMorph_any a b s t sa W ha hb (hs.below hB)
  have cC := fun (W : World) (hB : Below w.heap.size w W) => codeOf_any (morC a b s t) sa W (hs.below hB) (morC_in a b s t)
  have hbl : ∀ w, (Instr.build 38 #[]).run Tryd.prog w = .ok (.agg (FC zeroF)) w := build_fr
  have b1 := ((Blk.new w 38 a).alloc (.cells (FC b) 38)).alloc (.cells (FC zeroF) 38)
  have b2 := (Blk.new (w.alloc (.cells (FC a) 38)) 38 b).alloc (.cells (FC zeroF) 38)
  have b3 := Blk.new ((w.alloc (.cells (FC a) 38)).alloc (.cells (FC b) 38)) 38 zeroF
  rw [World.size_alloc] at b2
  rw [World.size_alloc, World.size_alloc] at b3
  have h0 := (((Below.refl w.heap.size w).alloc (Nat.le_refl _) (.cells (FC a) 38)).alloc (by simp) (.cells (FC b) 38)).alloc (by simp; omega) (.cells (FC zeroF) 38)
  rw [FC_zero] at b1 b2 b3 h0
  by_cases hz : morC a b s t = 0
  · obtain ⟨o1, o2, k1, k2⟩ := morC_zero hz
    have a1 := inB_iff.1 k1
    have a2 := inB_iff.1 k2
    have cF := fun W => morphed_any a b s t ha hb a2.1 a2.2 a1.1 a1.2 W
    rw [hz] at cM ⊢
    rw [errV0] at cM
    rw [show ifC 0 (morF a b s.toNat t.toNat) = morF a b s.toNat t.toNat by simp [ifC]]
    have CM := Lib.hid cM
    clear cC hbl hz o1 o2 k1 k2 a1 a2 cM hs
    generalize morF a b s.toNat t.toNat = r at *
    go_enter Tryd.func29, Tryd.ntmps29
    go_wp2_with (first | (refine wpList_load_fr rfl 38 36 _ rfl _ rfl b1 Tryd.underlying38 (by kernel_rfl) ?_) | (refine wpList_load_fr rfl 38 36 _ rfl _ rfl b2 Tryd.underlying38 (by kernel_rfl) ?_))
    generalize (((w.alloc _).alloc _).alloc _) = w0 at *
    refine (CM.out _ h0).mono ?_
    rintro e w1 ⟨rfl, hb1⟩
    replace b1 := b1.below hb1 b1.lt
    replace b2 := b2.below hb1 b2.lt
    replace b3 := b3.below hb1 b3.lt
    replace h0 := grown_below h0 hb1 h0.size
    clear hb1
    go_wp2_with (first | (refine wpList_load_fr rfl 38 36 _ rfl _ rfl b1 Tryd.underlying38 (by kernel_rfl) ?_) | (refine wpList_load_fr rfl 38 36 _ rfl _ rfl b2 Tryd.underlying38 (by kernel_rfl) ?_) | (go_at_call 62; refine (cF _).mono ?_; rintro e w1 ⟨rfl, hb1⟩; replace b1 := b1.below hb1 b1.lt; replace b2 := b2.below hb1 b2.lt; replace b3 := b3.below hb1 b3.lt; replace h0 := grown_below h0 hb1 h0.size; clear hb1) | (refine wpList_store_fr rfl 38 _ _ rfl _ rfl b3 rfl (by kernel_rfl) ?_))
    exact bodyPost_ret_fr2 (p := 8) (u := 9) (ty := 38) (e := 36) rfl rfl (b3.setRow _) Tryd.underlying38 (by kernel_rfl) rfl ⟨rfl, below_setRow h0 (by omega) _⟩
  · rw [show ifC (morC a b s t) (morF a b s.toNat t.toNat) = zeroF by simp [ifC, hz]]
    rcases morC_ne hz with hc | hc
    all_goals
      rw [hc] at cM cC
      rw [hc]
      first | rw [errV1] at cM cC | rw [errV2] at cM cC
      have CM := Lib.hid cM
      have CC := Lib.hid cC
      clear cM cC hz hs hc
      go_enter Tryd.func29, Tryd.ntmps29
      go_wp2_with (first | (refine wpList_load_fr rfl 38 36 _ rfl _ rfl b1 Tryd.underlying38 (by kernel_rfl) ?_) | (refine wpList_load_fr rfl 38 36 _ rfl _ rfl b2 Tryd.underlying38 (by kernel_rfl) ?_))
      generalize (((w.alloc _).alloc _).alloc _) = w0 at *
      refine (CM.out _ h0).mono ?_
      rintro e w1 ⟨rfl, hb1⟩
      replace b1 := b1.below hb1 b1.lt
      replace b2 := b2.below hb1 b2.lt
      replace b3 := b3.below hb1 b3.lt
      replace h0 := grown_below h0 hb1 h0.size
      clear hb1
      go_wp2_with (first | (go_at_call 41; refine (CC.out _ h0).mono ?_; rintro e w1 ⟨rfl, rfl⟩) | (refine wpList_store_fr (f := zeroF) rfl 38 _ _ rfl _ rfl b3 rfl (by kernel_rfl) ?_))
      exact bodyPost_ret_fr2 (p := 8) (u := 9) (ty := 38) (e := 36) rfl rfl (b3.setRow _) Tryd.underlying38 (by kernel_rfl) rfl ⟨rfl, below_setRow h0 (by omega) _⟩
set_option maxHeartbeats 1000000 in
theorem specMorphAt_any (a b : Nat → Nat) (s t : Int) (w : World) (ha : ∀ k, a k < 65536) (hb : ∀ k, b k < 65536) :
    Calls Tryd.prog 27 #[.agg (FC a), .agg (FC b), .int .i64 s, .int .i64 t] w fun e w' => e = .returned (.tuple #[.agg (FC (ifC (morC a b s t) (morF a b s.toNat t.toNat))), .int .i64 (morC a b s t)]) ∧ Below w.heap.size w w' := by
  have hbl : ∀ w, (Instr.build 38 #[]).run Tryd.prog w = .ok (.agg (FC zeroF)) w := build_fr
  have b1 := ((Blk.new w 38 a).alloc (.cells (FC b) 38)).alloc (.cells (FC zeroF) 38)
  have b2 := (Blk.new (w.alloc (.cells (FC a) 38)) 38 b).alloc (.cells (FC zeroF) 38)
  have b3 := Blk.new ((w.alloc (.cells (FC a) 38)).alloc (.cells (FC b) 38)) 38 zeroF
  rw [World.size_alloc] at b2
  rw [World.size_alloc, World.size_alloc] at b3
  have h0 := (((Below.refl w.heap.size w).alloc (Nat.le_refl _) (.cells (FC a) 38)).alloc (by simp) (.cells (FC b) 38)).alloc (by simp; omega) (.cells (FC zeroF) 38)
  rw [FC_zero] at b1 b2 b3 h0
  have cI1 := fun w => in_any t 1 200 w
  have cI2 := fun w => in_any s 0 t w
  rcases morC_cases a b s t with ⟨h1, hc⟩ | ⟨h1, h2, hc⟩ | ⟨h1, h2, h3, hc⟩ | ⟨h1, h2, h3, h4, hc⟩ | ⟨h1, h2, h3, h4, hc⟩
  · rw [hc]
    rw [show ifC 1 (morF a b s.toNat t.toNat) = zeroF by simp [ifC]]
    go_enter Tryd.func27, Tryd.ntmps27
    go_wp2_with fail
    generalize (((w.alloc _).alloc _).alloc _) = w0 at *
    have cA := ok_any _ a w0 b1
    have cB := ok_any _ b w0 b2
    rw [h1] at cA
    have CB := Lib.hid cB
    have CI1 := Lib.hid cI1
    have CI2 := Lib.hid cI2
    clear cB cI1 cI2 hc h1
    refine cA.mono ?_
    rintro e w' ⟨rfl, rfl⟩
    clear cA
    go_wp2_with (refine wpList_store_fr (f := zeroF) rfl 38 _ _ rfl _ rfl b3 rfl (by kernel_rfl) ?_)
    exact bodyPost_ret_fr2 (p := 8) (u := 9) (ty := 38) (e := 36) rfl rfl (b3.setRow _) Tryd.underlying38 (by kernel_rfl) rfl ⟨rfl, below_setRow h0 (by omega) _⟩
  · rw [hc]
    rw [show ifC 1 (morF a b s.toNat t.toNat) = zeroF by simp [ifC]]
    go_enter Tryd.func27, Tryd.ntmps27
    go_wp2_with fail
    generalize (((w.alloc _).alloc _).alloc _) = w0 at *
    have cA := ok_any _ a w0 b1
    have cB := ok_any _ b w0 b2
    rw [h1] at cA
    rw [h2] at cB
    have CB := Lib.hid cB
    have CI1 := Lib.hid cI1
    have CI2 := Lib.hid cI2
    clear cB cI1 cI2 hc h1 h2
    refine cA.mono ?_
    rintro e w' ⟨rfl, rfl⟩
    clear cA
    go_wp2_with fail
    refine (CB.out).mono ?_
    rintro e w' ⟨rfl, rfl⟩
    go_wp2_with (refine wpList_store_fr (f := zeroF) rfl 38 _ _ rfl _ rfl b3 rfl (by kernel_rfl) ?_)
    exact bodyPost_ret_fr2 (p := 8) (u := 9) (ty := 38) (e := 36) rfl rfl (b3.setRow _) Tryd.underlying38 (by kernel_rfl) rfl ⟨rfl, below_setRow h0 (by omega) _⟩
  · rw [hc]
    rw [show ifC 2 (morF a b s.toNat t.toNat) = zeroF by simp [ifC]]
    rw [h3] at cI1
    go_enter Tryd.func27, Tryd.ntmps27
    go_wp2_with fail
    generalize (((w.alloc _).alloc _).alloc _) = w0 at *
    have cA := ok_any _ a w0 b1
    have cB := ok_any _ b w0 b2
    rw [h1] at cA
    rw [h2] at cB
    have CB := Lib.hid cB
    have CI1 := Lib.hid cI1
    have CI2 := Lib.hid cI2
    clear cB cI1 cI2 hc h1 h2 h3
    refine cA.mono ?_
    rintro e w' ⟨rfl, rfl⟩
    clear cA
    go_wp2_with fail
    refine (CB.out).mono ?_
    rintro e w' ⟨rfl, rfl⟩
    go_wp2_with fail
    refine (CI1.out _).mono ?_
    rintro e w' ⟨rfl, rfl⟩
    go_wp2_with (refine wpList_store_fr (f := zeroF) rfl 38 _ _ rfl _ rfl b3 rfl (by kernel_rfl) ?_)
    exact bodyPost_ret_fr2 (p := 8) (u := 9) (ty := 38) (e := 36) rfl rfl (b3.setRow _) Tryd.underlying38 (by kernel_rfl) rfl ⟨rfl, below_setRow h0 (by omega) _⟩
  · rw [hc]
    rw [show ifC 2 (morF a b s.toNat t.toNat) = zeroF by simp [ifC]]
    rw [h3] at cI1
    rw [h4] at cI2
    go_enter Tryd.func27, Tryd.ntmps27
    go_wp2_with fail
    generalize (((w.alloc _).alloc _).alloc _) = w0 at *
    have cA := ok_any _ a w0 b1
    have cB := ok_any _ b w0 b2
    rw [h1] at cA
    rw [h2] at cB
    have CB := Lib.hid cB
    have CI1 := Lib.hid cI1
    have CI2 := Lib.hid cI2
    clear cB cI1 cI2 hc h1 h2 h3 h4
    refine cA.mono ?_
    rintro e w' ⟨rfl, rfl⟩
    clear cA
    go_wp2_with fail
    refine (CB.out).mono ?_
    rintro e w' ⟨rfl, rfl⟩
    go_wp2_with fail
    refine (CI1.out _).mono ?_
    rintro e w' ⟨rfl, rfl⟩
    go_wp2_with fail
    refine (CI2.out _).mono ?_
    rintro e w' ⟨rfl, rfl⟩
    go_wp2_with (refine wpList_store_fr (f := zeroF) rfl 38 _ _ rfl _ rfl b3 rfl (by kernel_rfl) ?_)
    exact bodyPost_ret_fr2 (p := 8) (u := 9) (ty := 38) (e := 36) rfl rfl (b3.setRow _) Tryd.underlying38 (by kernel_rfl) rfl ⟨rfl, below_setRow h0 (by omega) _⟩
  · have a1 := inB_iff.1 h3
    have a2 := inB_iff.1 h4
    have cF := fun W => specMorph_any a b s t ha hb h1 h2 a2.1 a2.2 a1.1 a1.2 W
    rw [hc]
    rw [show ifC 0 (morF a b s.toNat t.toNat) = morF a b s.toNat t.toNat by simp [ifC]]
    generalize morF a b s.toNat t.toNat = r at *
    have CF := Lib.hid cF
    clear cF a1 a2
    rw [h3] at cI1
    rw [h4] at cI2
    go_enter Tryd.func27, Tryd.ntmps27
    go_wp2_with fail
    generalize (((w.alloc _).alloc _).alloc _) = w0 at *
    have cA := ok_any _ a w0 b1
    have cB := ok_any _ b w0 b2
    rw [h1] at cA
    rw [h2] at cB
    have CB := Lib.hid cB
    have CI1 := Lib.hid cI1
    have CI2 := Lib.hid cI2
    clear cB cI1 cI2 hc h1 h2 h3 h4
    refine cA.mono ?_
    rintro e w' ⟨rfl, rfl⟩
    clear cA
    go_wp2_with fail
    refine (CB.out).mono ?_
    rintro e w' ⟨rfl, rfl⟩
    go_wp2_with fail
    refine (CI1.out _).mono ?_
    rintro e w' ⟨rfl, rfl⟩
    go_wp2_with fail
    refine (CI2.out _).mono ?_
    rintro e w' ⟨rfl, rfl⟩
    go_wp2_with (first | (refine wpList_load_fr rfl 38 36 _ rfl _ rfl b1 Tryd.underlying38 (by kernel_rfl) ?_) | (refine wpList_load_fr rfl 38 36 _ rfl _ rfl b2 Tryd.underlying38 (by kernel_rfl) ?_) | (go_at_call 60; refine (CF.out _).mono ?_; rintro e w1 ⟨rfl, hb1⟩; replace b3 := b3.below hb1 b3.lt; replace h0 := grown_below h0 hb1 h0.size; clear hb1) | (refine wpList_store_fr rfl 38 _ _ rfl _ rfl b3 rfl (by kernel_rfl) ?_))
    exact bodyPost_ret_fr2 (p := 8) (u := 9) (ty := 38) (e := 36) rfl rfl (b3.setRow _) Tryd.underlying38 (by kernel_rfl) rfl ⟨rfl, below_setRow h0 (by omega) _⟩
end Go.Proofs.YtennmnkjdchbhabDoor
