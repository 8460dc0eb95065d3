import Derived.Test.YtajlkleoincoeacDoorRows
import Derived.Test.YtajlkleoincoeacDoorM2
import Derived.Test.YtajlkleoincoeacDoorM3
import Derived.Test.YtajlkleoincoeacDoorM11
import Derived.Test.YtajlkleoincoeacDoorM7
import Derived.Test.YtajlkleoincoeacDoorM4
/- impl: Frame.less: two frames, place by place. -/
namespace Go.Proofs.YtajlkleoincoeacDoor
open Go.RowKit
end Go.Proofs.YtajlkleoincoeacDoor

/- WithDot, of spec and of impl. -/
namespace Go.Proofs.YtajlkleoincoeacDoor
open Go.RowKit
end Go.Proofs.YtajlkleoincoeacDoor

/- MORPHS, asked for: checkMorph, MorphAt; spec's MorphAt. -/
namespace Go.Proofs.YtajlkleoincoeacDoor
set_option maxRecDepth 100000
open Go.RowKit
set_option linter.unusedVariables false
set_option linter.unusedSimpArgs false
/-- The code of two frames and a step between them. -/
def morC (a b : Nat → Nat) (s t : Int) : Int := if okF a && okF b then (if inB t 1 200 && inB s 0 t then 0 else 2) else 1
theorem morC_cases (a b : Nat → Nat) (s t : Int) : (okF a = false ∧ morC a b s t = 1) ∨ (okF a = true ∧ okF b = false ∧ morC a b s t = 1) ∨ (okF a = true ∧ okF b = true ∧ inB t 1 200 = false ∧ morC a b s t = 2) ∨ (okF a = true ∧ okF b = true ∧ inB t 1 200 = true ∧ inB s 0 t = false ∧ morC a b s t = 2) ∨ (okF a = true ∧ okF b = true ∧ inB t 1 200 = true ∧ inB s 0 t = true ∧ morC a b s t = 0) := by
  unfold morC; cases okF a <;> cases okF b <;> cases inB t 1 200 <;> cases inB s 0 t <;> simp
theorem morC_in (a b : Nat → Nat) (s t : Int) : 0 ≤ morC a b s t ∧ morC a b s t ≤ 5 := by
  rcases morC_cases a b s t with ⟨_, h⟩ | ⟨_, _, h⟩ | ⟨_, _, _, h⟩ | ⟨_, _, _, _, h⟩ | ⟨_, _, _, _, h⟩ <;> omega
theorem morC_zero {a b : Nat → Nat} {s t : Int} (h : morC a b s t = 0) : okF a = true ∧ okF b = true ∧ inB t 1 200 = true ∧ inB s 0 t = true := by
  rcases morC_cases a b s t with ⟨_, h'⟩ | ⟨_, _, h'⟩ | ⟨_, _, _, h'⟩ | ⟨_, _, _, _, h'⟩ | ⟨h1, h2, h3, h4, _⟩
  · omega
  · omega
  · omega
  · omega
  · exact ⟨h1, h2, h3, h4⟩
theorem morC_ne {a b : Nat → Nat} {s t : Int} (h : morC a b s t ≠ 0) : morC a b s t = 1 ∨ morC a b s t = 2 := by
  rcases morC_cases a b s t with ⟨_, h'⟩ | ⟨_, _, h'⟩ | ⟨_, _, _, h'⟩ | ⟨_, _, _, _, h'⟩ | ⟨_, _, _, _, h'⟩ <;> omega
set_option maxHeartbeats 1000000 in
theorem checkMorph_any (a b : Nat → Nat) (s t : Int) (sa : Nat → Addr) (w : World) (ha : ∀ k, a k < 65536) (hb : ∀ k, b k < 65536) (hs : Sent w sa) :
    Calls Tryd.prog 68 #[.agg (FC a), .agg (FC b), .int .i64 s, .int .i64 t] w fun e w' => e = .returned (errV sa (morC a b s t)) ∧ Below w.heap.size w w' := by
  have cA := fun w => valid_any a ha w
  have cB := fun w => valid_any b hb w
  have cS := fun w => isStep_any s t w
  have b1 := (Blk.new w 26 a).alloc (.cells (FC b) 26)
  have b2 := Blk.new (w.alloc (.cells (FC a) 26)) 26 b
  rw [World.size_alloc] at b2
  have h0 := ((Below.refl w.heap.size w).alloc (Nat.le_refl _) (.cells (FC a) 26)).alloc (by simp) (.cells (FC b) 26)
  rcases morC_cases a b s t with ⟨h1, hc⟩ | ⟨h1, h2, hc⟩ | ⟨h1, h2, h3, hc⟩ | ⟨h1, h2, h3, h4, hc⟩ | ⟨h1, h2, h3, h4, hc⟩
  · rw [h1] at cA
    rw [hc, errV1]
    clear hc h1
    go_enter Tryd.func68, Tryd.ntmps68
    go_wp2_with (refine wpList_load_fr rfl 26 24 _ rfl _ rfl b1 Tryd.underlying26 (by kernel_rfl) ?_)
    generalize ((w.alloc _).alloc _) = w0 at *
    refine (cA _).mono ?_
    rintro e w1 ⟨rfl, hb1⟩
    replace b2 := b2.below hb1 b2.lt
    replace h0 := grown_below h0 hb1 h0.size
    clear hb1
    have q0 := (hs.below h0).var0
    clear cA cB cS hs
    go_wp2
    go_ret
    exact ⟨rfl, h0⟩
  · rw [h1] at cA
    rw [h2] at cB
    rw [hc, errV1]
    clear hc h1 h2
    go_enter Tryd.func68, Tryd.ntmps68
    go_wp2_with (refine wpList_load_fr rfl 26 24 _ rfl _ rfl b1 Tryd.underlying26 (by kernel_rfl) ?_)
    generalize ((w.alloc _).alloc _) = w0 at *
    refine (cA _).mono ?_
    rintro e w1 ⟨rfl, hb1⟩
    replace b2 := b2.below hb1 b2.lt
    replace h0 := grown_below h0 hb1 h0.size
    clear hb1
    go_wp2_with (refine wpList_load_frG rfl 26 24 _ rfl _ rfl b2 Tryd.underlying26 (by kernel_rfl) ?_)
    refine (cB _).mono ?_
    rintro e w2 ⟨rfl, hb2⟩
    replace h0 := grown_below h0 hb2 h0.size
    clear hb2
    have q0 := (hs.below h0).var0
    clear cA cB hs
    go_wp2
    go_ret
    exact ⟨rfl, h0⟩
  · rw [h1] at cA
    rw [h2] at cB
    rw [h3] at cS
    rw [Bool.false_and] at cS
    rw [hc, errV2]
    clear hc h1 h2 h3
    go_enter Tryd.func68, Tryd.ntmps68
    go_wp2_with (refine wpList_load_fr rfl 26 24 _ rfl _ rfl b1 Tryd.underlying26 (by kernel_rfl) ?_)
    generalize ((w.alloc _).alloc _) = w0 at *
    refine (cA _).mono ?_
    rintro e w1 ⟨rfl, hb1⟩
    replace b2 := b2.below hb1 b2.lt
    replace h0 := grown_below h0 hb1 h0.size
    clear hb1
    go_wp2_with (refine wpList_load_frG rfl 26 24 _ rfl _ rfl b2 Tryd.underlying26 (by kernel_rfl) ?_)
    refine (cB _).mono ?_
    rintro e w2 ⟨rfl, hb2⟩
    replace h0 := grown_below h0 hb2 h0.size
    clear hb2
    have q0 := (hs.below h0).var1
    clear cA cB hs
    go_wp2_with (go_at_call 113; refine (cS _).mono ?_; rintro e w' ⟨rfl, rfl⟩)
    go_ret
    exact ⟨rfl, h0⟩
  · rw [h1] at cA
    rw [h2] at cB
    rw [h3, h4] at cS
    rw [Bool.true_and] at cS
    rw [hc, errV2]
    clear hc h1 h2 h3 h4
    go_enter Tryd.func68, Tryd.ntmps68
    go_wp2_with (refine wpList_load_fr rfl 26 24 _ rfl _ rfl b1 Tryd.underlying26 (by kernel_rfl) ?_)
    generalize ((w.alloc _).alloc _) = w0 at *
    refine (cA _).mono ?_
    rintro e w1 ⟨rfl, hb1⟩
    replace b2 := b2.below hb1 b2.lt
    replace h0 := grown_below h0 hb1 h0.size
    clear hb1
    go_wp2_with (refine wpList_load_frG rfl 26 24 _ rfl _ rfl b2 Tryd.underlying26 (by kernel_rfl) ?_)
    refine (cB _).mono ?_
    rintro e w2 ⟨rfl, hb2⟩
    replace h0 := grown_below h0 hb2 h0.size
    clear hb2
    have q0 := (hs.below h0).var1
    clear cA cB hs
    go_wp2_with (go_at_call 113; refine (cS _).mono ?_; rintro e w' ⟨rfl, rfl⟩)
    go_ret
    exact ⟨rfl, h0⟩
  · rw [h1] at cA
    rw [h2] at cB
    rw [h3, h4] at cS
    rw [Bool.true_and] at cS
    rw [hc, errV0]
    clear hc h1 h2 h3 h4
    go_enter Tryd.func68, Tryd.ntmps68
    go_wp2_with (refine wpList_load_fr rfl 26 24 _ rfl _ rfl b1 Tryd.underlying26 (by kernel_rfl) ?_)
    generalize ((w.alloc _).alloc _) = w0 at *
    refine (cA _).mono ?_
    rintro e w1 ⟨rfl, hb1⟩
    replace b2 := b2.below hb1 b2.lt
    replace h0 := grown_below h0 hb1 h0.size
    clear hb1
    go_wp2_with (refine wpList_load_frG rfl 26 24 _ rfl _ rfl b2 Tryd.underlying26 (by kernel_rfl) ?_)
    refine (cB _).mono ?_
    rintro e w2 ⟨rfl, hb2⟩
    replace h0 := grown_below h0 hb2 h0.size
    clear hb2
    clear cA cB hs
    go_wp2_with (go_at_call 113; refine (cS _).mono ?_; rintro e w' ⟨rfl, rfl⟩)
    go_ret
    exact ⟨rfl, h0⟩
set_option maxHeartbeats 1000000 in
theorem implMorphAt_any (a b : Nat → Nat) (s t : Int) (sa : Nat → Addr) (w : World) (ha : ∀ k, a k < 65536) (hb : ∀ k, b k < 65536) (hs : Sent w sa) :
    Calls Tryd.prog 33 #[.agg (FC a), .agg (FC b), .int .i64 s, .int .i64 t] w fun e w' => e = .returned (.tuple #[.agg (FC (ifC (morC a b s t) (morF a b s.toNat t.toNat))), .int .i64 (morC a b s t)]) ∧ Below w.heap.size w w' := by
  have cM := fun (W : World) (hB : Below w.heap.size w W) => checkMorph_any a b s t sa W ha hb (hs.below hB)
  have cC := fun (W : World) (hB : Below w.heap.size w W) => codeOf_any (morC a b s t) sa W (hs.below hB) (morC_in a b s t)
  have hbl : ∀ w, (Instr.build 26 #[]).run Tryd.prog w = .ok (.agg (FC zeroF)) w := build_fr
  have b1 := ((Blk.new w 26 a).alloc (.cells (FC b) 26)).alloc (.cells (FC zeroF) 26)
  have b2 := (Blk.new (w.alloc (.cells (FC a) 26)) 26 b).alloc (.cells (FC zeroF) 26)
  have b3 := Blk.new ((w.alloc (.cells (FC a) 26)).alloc (.cells (FC b) 26)) 26 zeroF
  rw [World.size_alloc] at b2
  rw [World.size_alloc, World.size_alloc] at b3
  have h0 := (((Below.refl w.heap.size w).alloc (Nat.le_refl _) (.cells (FC a) 26)).alloc (by simp) (.cells (FC b) 26)).alloc (by simp; omega) (.cells (FC zeroF) 26)
  rw [FC_zero] at b1 b2 b3 h0
  by_cases hz : morC a b s t = 0
  · obtain ⟨o1, o2, k1, k2⟩ := morC_zero hz
    have a1 := inB_iff.1 k1
    have a2 := inB_iff.1 k2
    have cF := fun W => morphed_any a b s t ha hb a2.1 a2.2 a1.1 a1.2 W
    rw [hz] at cM ⊢
    rw [errV0] at cM
    rw [show ifC 0 (morF a b s.toNat t.toNat) = morF a b s.toNat t.toNat by simp [ifC]]
    have CM := Lib.hid cM
    clear cC hbl hz o1 o2 k1 k2 a1 a2 cM hs
    generalize morF a b s.toNat t.toNat = r at *
    go_enter Tryd.func33, Tryd.ntmps33
    go_wp2_with (first | (refine wpList_load_fr rfl 26 24 _ rfl _ rfl b1 Tryd.underlying26 (by kernel_rfl) ?_) | (refine wpList_load_fr rfl 26 24 _ rfl _ rfl b2 Tryd.underlying26 (by kernel_rfl) ?_))
    generalize (((w.alloc _).alloc _).alloc _) = w0 at *
    refine (CM.out _ h0).mono ?_
    rintro e w1 ⟨rfl, hb1⟩
    replace b1 := b1.below hb1 b1.lt
    replace b2 := b2.below hb1 b2.lt
    replace b3 := b3.below hb1 b3.lt
    replace h0 := grown_below h0 hb1 h0.size
    clear hb1
    go_wp2_with (first | (refine wpList_load_fr rfl 26 24 _ rfl _ rfl b1 Tryd.underlying26 (by kernel_rfl) ?_) | (refine wpList_load_fr rfl 26 24 _ rfl _ rfl b2 Tryd.underlying26 (by kernel_rfl) ?_) | (go_at_call 71; refine (cF _).mono ?_; rintro e w1 ⟨rfl, hb1⟩; replace b1 := b1.below hb1 b1.lt; replace b2 := b2.below hb1 b2.lt; replace b3 := b3.below hb1 b3.lt; replace h0 := grown_below h0 hb1 h0.size; clear hb1) | (refine wpList_store_fr rfl 26 _ _ rfl _ rfl b3 rfl (by kernel_rfl) ?_))
    exact bodyPost_ret_fr2 (p := 8) (u := 9) (ty := 26) (e := 24) rfl rfl (b3.setRow _) Tryd.underlying26 (by kernel_rfl) rfl ⟨rfl, below_setRow h0 (by omega) _⟩
  · rw [show ifC (morC a b s t) (morF a b s.toNat t.toNat) = zeroF by simp [ifC, hz]]
    rcases morC_ne hz with hc | hc
    all_goals
      rw [hc] at cM cC
      rw [hc]
      first | rw [errV1] at cM cC | rw [errV2] at cM cC
      have CM := Lib.hid cM
      have CC := Lib.hid cC
      clear cM cC hz hs hc
      go_enter Tryd.func33, Tryd.ntmps33
      go_wp2_with (first | (refine wpList_load_fr rfl 26 24 _ rfl _ rfl b1 Tryd.underlying26 (by kernel_rfl) ?_) | (refine wpList_load_fr rfl 26 24 _ rfl _ rfl b2 Tryd.underlying26 (by kernel_rfl) ?_))
      generalize (((w.alloc _).alloc _).alloc _) = w0 at *
      refine (CM.out _ h0).mono ?_
      rintro e w1 ⟨rfl, hb1⟩
      replace b1 := b1.below hb1 b1.lt
      replace b2 := b2.below hb1 b2.lt
      replace b3 := b3.below hb1 b3.lt
      replace h0 := grown_below h0 hb1 h0.size
      clear hb1
      go_wp2_with (first | (go_at_call 44; refine (CC.out _ h0).mono ?_; rintro e w1 ⟨rfl, rfl⟩) | (refine wpList_store_fr (f := zeroF) rfl 26 _ _ rfl _ rfl b3 rfl (by kernel_rfl) ?_))
      exact bodyPost_ret_fr2 (p := 8) (u := 9) (ty := 26) (e := 24) rfl rfl (b3.setRow _) Tryd.underlying26 (by kernel_rfl) rfl ⟨rfl, below_setRow h0 (by omega) _⟩
end Go.Proofs.YtajlkleoincoeacDoor

/- BOOKS OF MORPHS: MorphBook, impl and spec. -/
namespace Go.Proofs.YtajlkleoincoeacDoor
set_option maxRecDepth 100000
open Go.RowKit
set_option linter.unusedVariables false
set_option linter.unusedSimpArgs false
def mbC (a b : Nat → Nat) (s : Int) : Int := if okF a && okF b then (if inB s 1 39 then 0 else 2) else 1
def mbL (a b : Nat → Nat) (s : Int) : List (Nat → Nat) := tab (fun i => morF a b i s.toNat) (s.toNat + 1)
theorem ifL_len' {α : Type} {c : Int} {l : List α} (h : c = 0 → l.length ≤ 1000) : (ifL c l).length ≤ 1000 := by
  unfold ifL; split
  · rename_i hc; exact h hc
  · simp
theorem mb_if_len (a b : Nat → Nat) (s : Int) : (ifL (mbC a b s) (mbL a b s)).length ≤ 1000 := by
  refine ifL_len' fun hc => ?_
  unfold mbL
  rw [tab_length]
  unfold mbC at hc
  split at hc
  · split at hc
    · rename_i h; have := inB_iff.1 h; omega
    · omega
  · omega
theorem Blk.grown {w w' : World} {g : Nat} {t : TypeId} {f : Nat → Nat} {row : Option Nat} (h : Blk w g t f) (hg : w.grownBy w' row) (hn : row ≠ some g) : Blk w' g t f := by
  unfold Blk; rw [hg.block g h.lt (Ne.symm hn)]; exact h
theorem run_build_frsM (w : World) (f : Nat → Nat) : (Instr.buildSlice 51 1 #[(0, .agg (FC f))]).run Tryd.prog w = .ok (.slice (some ⟨w.heap.size, 0, none⟩) 1 1) (w.alloc (.cells (FC f) 26)) := by kernel_rfl
theorem run_build_frsN (w : World) (f : Nat → Nat) : (Instr.buildSlice 52 1 #[(0, .agg (FC f))]).run Tryd.prog w = .ok (.slice (some ⟨w.heap.size, 0, none⟩) 1 1) (w.alloc (.cells (FC f) 26)) := by kernel_rfl
theorem infoFrM : (Tryd.prog.info? 26).map (fun i => (i.zero, i.size, i.bytes)) = some (some (.agg (FC zeroF)), eFr.n, 24) := by kernel_rfl
set_option maxHeartbeats 400000 in
theorem listByC3_fr (n : Int) (fid : FuncId) (c1 c2 c3 : Value) (F : Nat → (Nat → Nat)) (w : World) (hn1 : -1 ≤ n) (hn2 : n ≤ 1000000)
    (hcall : ∀ x w, (callFunc fid #[.int .i64 x, c1, c2, c3]).run Tryd.prog w = .ok (.enter fid #[.int .i64 x, c1, c2, c3]) w)
    (hbody : ∀ i : Nat, (i : Int) < n → ∀ w1, Below w.heap.size w w1 → Calls Tryd.prog fid #[.int .i64 i, c1, c2, c3] w1 fun e w2 => e = .returned (.agg (FC (F i))) ∧ Below w1.heap.size w1 w2) :
    Calls Tryd.prog 69 #[.int .i64 n, .func (.func fid) #[] #[c1, c2, c3]] w (GivesV eFr 26 (tab F n.toNat) w) := by
  have hown := OwnL.nil_ (E := eFr) w w.heap.size 26
  have HB := Lib.hid hbody
  clear hbody
  go_enter Tryd.func69, Tryd.ntmps69
  go_wp2
  go_loopw [5, 8] (fun u i wr => ∃ k : Nat, k ≤ n.toNat ∧ i = .int .i64 k ∧ OwnL eFr wr w.heap.size 26 u (tab F k) ∧ Below w.heap.size w wr) (fun _ i _ => n.toNat - (intOf i).toNat)
  case atStart => exact ⟨0, by omega, rfl, hown, Below.refl _ _⟩
  case round =>
    clear hown
    obtain ⟨k, hk, rfl, hown, hb⟩ := hrel
    by_cases hlt : (k : Int) < n
    · go_wp2_with fail
      refine (HB.out k hlt wr hb).mono ?_
      rintro e w3 ⟨rfl, hb3⟩
      replace hb := grown_below hb hb3 hb.size
      replace hown := hown.below hb3
      clear hb3
      go_wp2_with (first | (refine wpList_build1 (v := .agg (FC (F k))) (cs := FC (F k)) rfl 51 26 _ rfl rfl (fun w => run_build_frsM w (F k)) ?_) | (at_builtin; refine wpList_append_one rfl _ _ 51 rfl w.heap.size 26 Tryd.underlying51 infoFrM rfl (by decide) (by omega) (hown.alloc (.cells (FC (F k)) 26)) rfl (F k) rfl (range_new _ _ (FC (F k))) (by rw [tab_length]; omega) (by have := hb.size; simp; omega) ?_; intro v' w4 hown' hgrow))
      go_roundw
      case rel =>
        go_light
        refine ⟨k + 1, by omega, by go_num, ?_, (hown.alloc _).grown_below (hb.alloc hb.size _) hgrow (Nat.le_refl _) (by have := hb.size; simp; omega)⟩
        rw [tab_succ]; exact hown'
      case measure => simp [intOf]; omega
    · have hkn : k = n.toNat := by omega
      subst hkn
      go_wp2
      go_ret
      exact ⟨_, rfl, hown, hb⟩
set_option maxHeartbeats 400000 in
theorem morFn_any (g1 g2 g5 : Nat) (a b : Nat → Nat) (i : Nat) (s : Int) (w : World) (ha : ∀ k, a k < 65536) (hb : ∀ k, b k < 65536) (hi : (i : Int) ≤ s) (h1 : 1 ≤ s) (h2 : s ≤ 39) (b1 : Blk w g1 26 a) (b2 : Blk w g2 26 b) (r5 : Row w g5 2 #[.int .i64 s]) :
    Calls Tryd.prog 70 #[.int .i64 i, .pointer (some ⟨g1, 0, none⟩), .pointer (some ⟨g2, 0, none⟩), .pointer (some ⟨g5, 0, none⟩)] w fun e w' => e = .returned (.agg (FC (morF a b i s.toNat))) ∧ Below w.heap.size w w' := by
  have cF := fun W => morphed_any a b i s ha hb (by omega) hi h1 (by omega) W
  rw [Int.toNat_natCast] at cF
  have b3 := Blk.new w 26 zeroF
  have h0 := (Below.refl w.heap.size w).alloc (Nat.le_refl _) (.cells (FC zeroF) 26)
  replace b1 := b1.alloc (.cells (FC zeroF) 26)
  replace b2 := b2.alloc (.cells (FC zeroF) 26)
  replace r5 := r5.alloc (.cells (FC zeroF) 26)
  have c5 : (w.alloc (.cells (FC zeroF) 26)).cell? ⟨g5, 0, none⟩ = some (.int .i64 s) := r5.cell 0
  rw [FC_zero] at b1 b2 b3 h0 c5
  have CF := Lib.hid cF
  clear cF r5
  go_enter Tryd.func70, Tryd.ntmps70
  go_wp2_with (first | (refine wpList_load_fr rfl 26 24 _ rfl _ rfl b1 Tryd.underlying26 (by kernel_rfl) ?_) | (refine wpList_load_fr rfl 26 24 _ rfl _ rfl b2 Tryd.underlying26 (by kernel_rfl) ?_))
  generalize (w.alloc _) = w0 at *
  refine (CF.out _).mono ?_
  rintro e w1 ⟨rfl, hb1⟩
  replace b3 := b3.below hb1 b3.lt
  replace h0 := grown_below h0 hb1 h0.size
  clear hb1
  go_wp2_with (refine wpList_store_fr rfl 26 _ _ rfl _ rfl b3 rfl (by kernel_rfl) ?_)
  exact bodyPost_ret_fr (p := 5) (ty := 26) (e := 24) rfl rfl (b3.setRow _) Tryd.underlying26 (by kernel_rfl) rfl ⟨rfl, below_setRow h0 (Nat.le_refl _) _⟩
set_option maxHeartbeats 2000000 in
theorem implMorphBook_any (a b : Nat → Nat) (s : Int) (sa : Nat → Addr) (w : World) (ha : ∀ k, a k < 65536) (hb : ∀ k, b k < 65536) (hs : Sent w sa) :
    Calls Tryd.prog 29 #[.agg (FC a), .agg (FC b), .int .i64 s] w (GivesL eFr 26 (ifL (mbC a b s) (mbL a b s)) (mbC a b s) w) := by
  have cM := fun (W : World) (hB : Below w.heap.size w W) => checkMorph_any a b s s sa W ha hb (hs.below hB)
  have cC := fun (W : World) (hB : Below w.heap.size w W) => codeOf_any (morC a b s s) sa W (hs.below hB) (morC_in a b s s)
  have hss : inB s 0 s = decide (0 ≤ s) := by unfold inB; simp
  have b1 := ((Blk.new w 26 a).alloc (.cells (FC b) 26)).alloc (.cells #[.int .i64 s] 2)
  have b2 := (Blk.new (w.alloc (.cells (FC a) 26)) 26 b).alloc (.cells #[.int .i64 s] 2)
  have r5 := Row.new ((w.alloc (.cells (FC a) 26)).alloc (.cells (FC b) 26)) 2 #[.int .i64 s]
  rw [World.size_alloc] at b2
  rw [World.size_alloc, World.size_alloc] at r5
  have h0 := (((Below.refl w.heap.size w).alloc (Nat.le_refl _) (.cells (FC a) 26)).alloc (by simp) (.cells (FC b) 26)).alloc (by simp; omega) (.cells #[.int .i64 s] 2)
  by_cases hz : morC a b s s = 0
  · obtain ⟨o1, o2, k1, k2⟩ := morC_zero hz
    have a1 := (inB_iff.1 k1).1
    rw [hz] at cM
    rw [errV0] at cM
    have CM := Lib.hid cM
    by_cases hf : 40 ≤ s
    · have hc : mbC a b s = 2 := by unfold mbC; rw [o1, o2, inB_false.2 (.inr (by omega))]; rfl
      rw [hc, ifL1 _ (by decide)]
      clear cC hz o1 o2 k1 k2 cM hs hc hss
      go_enter Tryd.func29, Tryd.ntmps29
      go_wp2_with (first | (refine wpList_load_fr rfl 26 24 _ rfl _ rfl b1 Tryd.underlying26 (by kernel_rfl) ?_) | (refine wpList_load_fr rfl 26 24 _ rfl _ rfl b2 Tryd.underlying26 (by kernel_rfl) ?_))
      generalize (((w.alloc _).alloc _).alloc _) = w0 at *
      refine (CM.out _ h0).mono ?_
      rintro e w1 ⟨rfl, hb1⟩
      replace b1 := b1.below hb1 b1.lt
      replace b2 := b2.below hb1 b2.lt
      replace r5 := r5.below hb1 r5.lt
      replace h0 := grown_below h0 hb1 h0.size
      have c5 : w1.cell? ⟨w.heap.size + 1 + 1, 0, none⟩ = some (.int .i64 s) := r5.cell 0
      clear hb1
      go_wp2
      go_ret2
      exact ⟨_, rfl, OwnL.nil_ _ _ _, h0⟩

    · have hc : mbC a b s = 0 := by unfold mbC; rw [o1, o2, inB_iff.2 ⟨a1, by omega⟩]; rfl
      have a2 : s ≤ 39 := by omega
      rw [hc, ifL0]
      unfold mbL
      clear cC hz o1 o2 k1 k2 cM hs hc hss hf
      go_enter Tryd.func29, Tryd.ntmps29
      go_wp2_with (first | (refine wpList_load_fr rfl 26 24 _ rfl _ rfl b1 Tryd.underlying26 (by kernel_rfl) ?_) | (refine wpList_load_fr rfl 26 24 _ rfl _ rfl b2 Tryd.underlying26 (by kernel_rfl) ?_))
      generalize (((w.alloc _).alloc _).alloc _) = w0 at *
      refine (CM.out _ h0).mono ?_
      rintro e w1 ⟨rfl, hb1⟩
      replace b1 := b1.below hb1 b1.lt
      replace b2 := b2.below hb1 b2.lt
      replace r5 := r5.below hb1 r5.lt
      replace h0 := grown_below h0 hb1 h0.size
      have c5 : w1.cell? ⟨w.heap.size + 1 + 1, 0, none⟩ = some (.int .i64 s) := r5.cell 0
      clear hb1
      have cL := listByC3_fr (s + 1) 70 (.pointer (some ⟨w.heap.size, 0, none⟩)) (.pointer (some ⟨w.heap.size + 1, 0, none⟩)) (.pointer (some ⟨w.heap.size + 1 + 1, 0, none⟩)) (fun i => morF a b i s.toNat) w1 (by omega) (by omega) (fun x W => by kernel_rfl) (fun i hi W hB => morFn_any w.heap.size (w.heap.size + 1) (w.heap.size + 1 + 1) a b i s W ha hb (by omega) a1 a2 (b1.below hB b1.lt) (b2.below hB b2.lt) (r5.below hB r5.lt))
      have CLx := Lib.hid cL
      clear cL
      go_wp2_with fail
      refine (CLx.out).mono ?_
      rintro e w2 ⟨x, rfl, hown, hb2⟩
      rw [show (s + 1).toNat = s.toNat + 1 by omega] at hown
      go_wp2
      go_ret2
      exact ⟨_, rfl, hown.mono h0.size, h0.trans (hb2.mono h0.size)⟩

  · have hc : mbC a b s = morC a b s s := by
      unfold mbC
      unfold morC at hz ⊢
      rw [hss] at hz ⊢
      by_cases ho : (okF a && okF b) = true
      · rw [if_pos ho] at hz ⊢
        rw [if_pos ho]
        by_cases hi : (inB s 1 200 && decide (0 ≤ s)) = true
        · rw [if_pos hi] at hz; exact absurd rfl hz
        · rw [if_neg hi]
          rw [if_neg]
          intro h
          have h := inB_iff.1 h
          exact hi (by rw [Bool.and_eq_true, inB_iff, decide_eq_true_eq]; omega)
      · rw [if_neg ho, if_neg ho]
    rw [hc]
    rcases morC_ne hz with hc1 | hc1
    all_goals
      rw [hc1] at cM cC
      rw [hc1, ifL1 _ (by decide)]
      first | rw [errV1] at cM cC | rw [errV2] at cM cC
      have CM := Lib.hid cM
      have CC := Lib.hid cC
      clear cM cC hz hs hc hc1 hss
      go_enter Tryd.func29, Tryd.ntmps29
      go_wp2_with (first | (refine wpList_load_fr rfl 26 24 _ rfl _ rfl b1 Tryd.underlying26 (by kernel_rfl) ?_) | (refine wpList_load_fr rfl 26 24 _ rfl _ rfl b2 Tryd.underlying26 (by kernel_rfl) ?_))
      generalize (((w.alloc _).alloc _).alloc _) = w0 at *
      refine (CM.out _ h0).mono ?_
      rintro e w1 ⟨rfl, hb1⟩
      replace b1 := b1.below hb1 b1.lt
      replace b2 := b2.below hb1 b2.lt
      replace r5 := r5.below hb1 r5.lt
      replace h0 := grown_below h0 hb1 h0.size
      have c5 : w1.cell? ⟨w.heap.size + 1 + 1, 0, none⟩ = some (.int .i64 s) := r5.cell 0
      clear hb1
      go_wp2_with (go_at_call 44; refine (CC.out _ h0).mono ?_; rintro e w1 ⟨rfl, rfl⟩)
      go_ret2
      exact ⟨_, rfl, OwnL.nil_ _ _ _, h0⟩

set_option maxHeartbeats 2000000 in
theorem specMorphBook_any (a b : Nat → Nat) (s : Int) (w : World) (ha : ∀ k, a k < 65536) (hb : ∀ k, b k < 65536) :
    Calls Tryd.prog 30 #[.agg (FC a), .agg (FC b), .int .i64 s] w (GivesL eFr 26 (ifL (mbC a b s) (mbL a b s)) (mbC a b s) w) := by
  have b1 := (Blk.new w 26 a).alloc (.cells (FC b) 26)
  have b2 := Blk.new (w.alloc (.cells (FC a) 26)) 26 b
  rw [World.size_alloc] at b2
  have h0 := ((Below.refl w.heap.size w).alloc (Nat.le_refl _) (.cells (FC a) 26)).alloc (by simp) (.cells (FC b) 26)
  have cI := fun w => in_any s 1 39 w
  have hcs : (okF a = false ∧ mbC a b s = 1) ∨ (okF a = true ∧ okF b = false ∧ mbC a b s = 1) ∨ (okF a = true ∧ okF b = true ∧ inB s 1 39 = false ∧ mbC a b s = 2) ∨ (okF a = true ∧ okF b = true ∧ inB s 1 39 = true ∧ mbC a b s = 0) := by
    unfold mbC; cases okF a <;> cases okF b <;> cases inB s 1 39 <;> simp
  rcases hcs with ⟨h1, hc⟩ | ⟨h1, h2, hc⟩ | ⟨h1, h2, h3, hc⟩ | ⟨h1, h2, h3, hc⟩
  · rw [hc, ifL1 _ (by decide)]
    go_enter Tryd.func30, Tryd.ntmps30
    go_wp2_with fail
    generalize ((w.alloc _).alloc _) = w0 at *
    have cA := ok_any _ a w0 b1
    have cB := ok_any _ b w0 b2
    rw [h1] at cA
    have CB := Lib.hid cB
    have CI := Lib.hid cI
    clear cB cI hc h1
    refine cA.mono ?_
    rintro e w' ⟨rfl, rfl⟩
    clear cA
    go_wp2
    go_ret2
    exact ⟨_, rfl, OwnL.made (E := eFr) w0 w.heap.size 26 h0.size, h0.alloc h0.size _⟩
  · rw [hc, ifL1 _ (by decide)]
    go_enter Tryd.func30, Tryd.ntmps30
    go_wp2_with fail
    generalize ((w.alloc _).alloc _) = w0 at *
    have cA := ok_any _ a w0 b1
    have cB := ok_any _ b w0 b2
    rw [h1] at cA
    rw [h2] at cB
    have CB := Lib.hid cB
    have CI := Lib.hid cI
    clear cB cI hc h1 h2
    refine cA.mono ?_
    rintro e w' ⟨rfl, rfl⟩
    clear cA
    go_wp2_with fail
    refine (CB.out).mono ?_
    rintro e w' ⟨rfl, rfl⟩
    go_wp2
    go_ret2
    exact ⟨_, rfl, OwnL.made (E := eFr) w0 w.heap.size 26 h0.size, h0.alloc h0.size _⟩
  · rw [hc, ifL1 _ (by decide)]
    rw [h3] at cI
    go_enter Tryd.func30, Tryd.ntmps30
    go_wp2_with fail
    generalize ((w.alloc _).alloc _) = w0 at *
    have cA := ok_any _ a w0 b1
    have cB := ok_any _ b w0 b2
    rw [h1] at cA
    rw [h2] at cB
    have CB := Lib.hid cB
    have CI := Lib.hid cI
    clear cB cI hc h1 h2 h3
    refine cA.mono ?_
    rintro e w' ⟨rfl, rfl⟩
    clear cA
    go_wp2_with fail
    refine (CB.out).mono ?_
    rintro e w' ⟨rfl, rfl⟩
    go_wp2_with fail
    refine (CI.out _).mono ?_
    rintro e w' ⟨rfl, rfl⟩
    go_wp2
    go_ret2
    exact ⟨_, rfl, OwnL.made (E := eFr) w0 w.heap.size 26 h0.size, h0.alloc h0.size _⟩
  · have a1 := inB_iff.1 h3
    have cF := fun (t : Int) (q : 0 ≤ t ∧ t ≤ s) W => specMorph_any a b t s ha hb h1 h2 q.1 q.2 a1.1 (by omega) W
    have CF := Lib.hid cF
    rw [hc, ifL0]
    clear cF
    obtain ⟨n, rfl⟩ := Int.eq_ofNat_of_zero_le (show 0 ≤ s by omega)
    unfold mbL
    rw [Int.toNat_natCast]
    have q39 : n ≤ 39 := by omega
    rw [h3] at cI
    go_enter Tryd.func30, Tryd.ntmps30
    go_wp2_with fail
    generalize ((w.alloc _).alloc _) = w0 at *
    have cA := ok_any _ a w0 b1
    have cB := ok_any _ b w0 b2
    rw [h1] at cA
    rw [h2] at cB
    have CB := Lib.hid cB
    have CI := Lib.hid cI
    clear cB cI hc h1 h2 h3
    refine cA.mono ?_
    rintro e w' ⟨rfl, rfl⟩
    clear cA
    go_wp2_with fail
    refine (CB.out).mono ?_
    rintro e w' ⟨rfl, rfl⟩
    go_wp2_with fail
    refine (CI.out _).mono ?_
    rintro e w' ⟨rfl, rfl⟩
    have hm := OwnL.made (E := eFr) w0 w0.heap.size 26 (Nat.le_refl _)
    have hB1 := b1.lt
    have hB2 := b2.lt
    have h1 := h0.alloc h0.size (.cells #[] 26)
    replace b1 := b1.alloc (.cells #[] 26)
    replace b2 := b2.alloc (.cells #[] 26)
    have hs1 : w0.heap.size ≤ (w0.alloc (.cells #[] 26)).heap.size := by simp
    go_wp2
    generalize (w0.alloc _) = w1 at *
    generalize w0.heap.size = B0 at *
    clear a1
    go_loopw [8, 9] (fun u i wr => ∃ k : Nat, k ≤ n + 1 ∧ i = .int .i64 k ∧ OwnL eFr wr B0 26 u (tab (fun i => morF a b i n) k) ∧ B0 ≤ wr.heap.size ∧ Blk wr w.heap.size 26 a ∧ Blk wr (w.heap.size + 1) 26 b ∧ Below w.heap.size w wr) (fun _ i _ => n + 1 - (intOf i).toNat)
    case atStart => exact ⟨0, by omega, rfl, hm, hs1, b1, b2, h1⟩
    case round =>
      clear hm h1 b1 b2 hs1
      obtain ⟨k, hk, rfl, hown, hs1, b1, b2, hb⟩ := hrel
      by_cases hlt : k ≤ n
      · have cK := fun W => CF.out (k : Int) ⟨by omega, by omega⟩ W
        rw [Int.toNat_natCast, Int.toNat_natCast] at cK
        have hst := tab_succ (fun i => morF a b i n) k
        have hll : (tab (fun i => morF a b i n) k).length ≤ 1000 := by rw [tab_length]; omega
        have HST := Lib.hid hst
        have CK := Lib.hid cK
        clear hst cK
        generalize hf : morF a b k n = f at *
        have HF := Lib.hid hf
        clear hf
        go_wp2_with (first | (refine wpList_load_fr rfl 26 24 _ rfl _ rfl b1 Tryd.underlying26 (by kernel_rfl) ?_) | (refine wpList_load_fr rfl 26 24 _ rfl _ rfl b2 Tryd.underlying26 (by kernel_rfl) ?_) | (go_at_call 74; refine (CK.out _).mono ?_; rintro e w3 ⟨rfl, hb3⟩; replace hown := hown.below hb3; replace b1 := b1.below hb3 b1.lt; replace b2 := b2.below hb3 b2.lt; replace hb := grown_below hb hb3 hb.size; replace hs1 := Nat.le_trans hs1 hb3.size; clear hb3) | (refine wpList_build1 (v := .agg (FC f)) (cs := FC f) rfl 52 26 _ rfl rfl (fun w => run_build_frsN w f) ?_) | (at_builtin; refine wpList_append_one rfl _ _ 52 rfl B0 26 Tryd.underlying52 infoFrM rfl (by decide) (by omega) (hown.alloc (.cells (FC f) 26)) rfl f rfl (range_new _ _ (FC f)) (by omega) (by simp; omega) ?_; intro v' w4 hown' hgrow))
        go_roundw
        case rel =>
          go_light
          have kn := (hown.alloc (.cells (FC f) 26)).lt
          refine ⟨k + 1, by omega, by go_num, ?_, Nat.le_trans (by simp; omega) hgrow.size, (b1.alloc _).grown hgrow (fun e => by have := kn _ e; omega), (b2.alloc _).grown hgrow (fun e => by have := kn _ e; omega), (hb.alloc hb.size _).grown hgrow (by have := hb.size; simp; omega) (fun k hk => by have := kn k hk; omega)⟩
          rw [HST.out]; exact hown'
        case measure => simp [intOf]; omega
      · have hkn : k = n + 1 := by omega
        subst hkn
        go_wp2
        go_ret2
        exact ⟨_, rfl, hown.mono (by omega), hb⟩
end Go.Proofs.YtajlkleoincoeacDoor
