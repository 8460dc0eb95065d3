/- RepeatsIn: spec and impl. -/
import Derived.Test.YtkcomhbmhgnhhabRows
import Derived.Test.YtkcomhbmhgnhhabRepM
import Derived.Test.YtkcomhbmhgnhhabMapF
import Derived.Test.YtkcomhbmhgnhhabSBook
import Derived.Test.YtkcomhbmhgnhhabIBook
namespace Go.Proofs.Ytkcomhbmhgnhhab
set_option maxRecDepth 100000
open Go.RowKit
set_option linter.unusedVariables false
set_option linter.unusedSimpArgs false
theorem repL_len (L : List (Nat → Nat)) : (repL L).length = L.length := tab_length _ _
set_option maxHeartbeats 1000000 in
theorem repeats_any (v : Value) (L : List (Nat → Nat)) (w : World) (hlen : L.length ≤ 1000000) (h : SlAt eFr w w.heap.size v L) :
    Calls Try.prog 48 #[v] w (GivesV (eI .i64) 2 (repL L) w) := by
  obtain ⟨i0, hi0⟩ : ∃ i, Try.prog.info? 62 = some i := ⟨_, rfl⟩
  obtain ⟨A, c, rfl, h1, h2, hA⟩ := h
  unfold maxLen at h2
  have hown := OwnL.made (E := eI .i64) w w.heap.size 2 (Nat.le_refl _)
  have h0 := (Below.refl w.heap.size w).alloc (Nat.le_refl _) (.cells #[] 2)
  have hu : repL L = tab (fun i => (rp L i : Int)) L.length := rfl
  rw [hu]
  clear hu
  go_enter Try.func48, Try.ntmps48
  go_wp2
  go_loopw [3, 4] (fun u i wr => ∃ k : Nat, k ≤ L.length ∧ i = .int .i64 k ∧ OwnL (eI .i64) wr w.heap.size 2 u (tab (fun i => (rp L i : Int)) k) ∧ Below w.heap.size w wr) (fun _ i _ => L.length - (intOf i).toNat)
  case atStart => exact ⟨0, by omega, rfl, hown, h0⟩
  case round =>
    clear hown h0
    obtain ⟨k, hk, rfl, hown, hb⟩ := hrel
    by_cases hlt : k < L.length
    · obtain ⟨b1, o1, rfl, hb1, r1⟩ := hA (by omega)
      have HS := Lib.hid (rp_spec L k).2
      have hrk := (rp_spec L k).2.1
      have hst := tab_succ (fun i => (rp L i : Int)) k
      have HST := Lib.hid hst
      have hpl : (tab (fun i => (rp L i : Int)) k).length ≤ 1000000000 := by rw [tab_length]; omega
      clear hst hA
      go_wp2
      go_loopw [5] (fun a wr => ∃ j : Nat, j ≤ rp L k ∧ a = .int .i64 j ∧ OwnL (eI .i64) wr w.heap.size 2 u3 (tab (fun i => (rp L i : Int)) k) ∧ Below w.heap.size w wr) (fun a _ => L.length - (intOf a).toNat)
      case atStart => exact ⟨0, by omega, rfl, hown, hb⟩
      case round =>
        clear hown hb
        obtain ⟨j, hj, rfl, hown, hbb⟩ := hrel
        have hjl : j < L.length := by omega
        have g1 := range_below (range_part r1 (fAt_get hjl)) hbb hb1
        have g2 := range_below (range_part r1 (fAt_get hlt)) hbb hb1
        have l1 : b1 < wr.heap.size := Nat.lt_of_lt_of_le hb1 hbb.size
        rw [eFr_n] at g1 g2
        have hq := fun w => run_neq_fr (P := Try.prog) w (fAt L j) (fAt L k) Try.underlying64 (by kernel_rfl) Try.underlying62 hi0 (by kernel_rfl)
        by_cases hjr : j < rp L k
        · rw [HS.out.2.2 j hjr] at hq
          go_wp2_with fail
          refine wp_region_calm (by kernel_rfl) (by kernel_rfl) ?_
          repeat (first | (refine wpQuiet_load_at rfl 64 62 _ rfl _ _ rfl (by first | exact g1 | exact g2) l1 Try.underlying64 (by kernel_rfl) ?_) | quiet_step (fail))
          refine wpQuiet_nil ?_
          intro w3 hb3
          replace hbb := grown_below hbb hb3 hbb.size
          replace hown := hown.below hb3
          clear g1 g2 hb3 hq
          go_wp2
          go_roundw
          case rel =>
            go_light
            exact ⟨j + 1, by omega, by go_num, hown, hbb⟩
          case measure => simp [intOf]; omega
        · obtain rfl : j = rp L k := by omega
          rw [HS.out.2.1] at hq
          generalize rp L k = j at *
          go_wp2_with fail
          refine wp_region_calm (by kernel_rfl) (by kernel_rfl) ?_
          repeat (first | (refine wpQuiet_load_at rfl 64 62 _ rfl _ _ rfl (by first | exact g1 | exact g2) l1 Try.underlying64 (by kernel_rfl) ?_) | quiet_step (fail))
          refine wpQuiet_nil ?_
          intro w3 hb3
          have hb4 := grown_below hbb hb3 hbb.size
          have hown4 := hown.below hb3
          clear g1 g2 hb3 hq hown hbb
          have kj : IntKind.i64.wrap (j : Int) = (j : Int) := IntWalk.i64_in _ (by omega)
          go_wp2_with (at_builtin; refine wpList_append_one rfl _ _ 24 rfl w.heap.size 2 Try.underlying24 infoI64 rfl (by decide) (by omega) (hown4.alloc _) rfl (j : Int) rfl (range_new _ _ _) hpl (by have := hb4.size; simp; omega) ?_; intro v' w4 hown' hgrow)
          go_roundw
          case rel =>
            go_light
            refine ⟨k + 1, by omega, by go_num, ?_, (hown4.alloc _).grown_below (hb4.alloc hb4.size _) hgrow (Nat.le_refl _) (by have := hb4.size; simp; omega)⟩
            rw [HST.out]; exact hown'
          case measure => simp [intOf]; omega
    · have hkl : k = L.length := by omega
      subst hkl
      clear hA
      go_wp2
      go_ret
      exact ⟨_, rfl, hown, hb⟩
theorem rep_if_len (L : List (Nat → Nat)) : (ifL (okBC L) (repL L)).length ≤ 1000 := by
  rcases okBC_cases L with ⟨ho, hc⟩ | ⟨ho, hc⟩
  · rw [hc, ifL1 _ (by decide)]; simp
  · rw [hc, ifL0, repL_len]; have := okB_len ho; omega
set_option maxHeartbeats 400000 in
theorem specRepeatsIn_any (v : Value) (L : List (Nat → Nat)) (w : World) (h : SlAt eFr w w.heap.size v L) :
    Calls Try.prog 11 #[v] w (GivesL (eI .i64) 2 (ifL (okBC L) (repL L)) (okBC L) w) := by
  have cO := specOk_any v L w h
  obtain ⟨A, c, rfl⟩ := h.form
  rcases okBC_cases L with ⟨ho, hc⟩ | ⟨ho, hc⟩
  · rw [ho] at cO
    rw [hc, ifL1 _ (by decide)]
    clear ho hc h
    go_enter Try.func11, Try.ntmps11
    go_wp2_with (go_at_call 47; refine cO.mono ?_; rintro e w' ⟨rfl, rfl⟩)
    go_ret2
    exact ⟨_, rfl, OwnL.made _ w.heap.size 2 (Nat.le_refl _), (Below.refl _ _).alloc (Nat.le_refl _) _⟩
  · have cR := repeats_any _ L w (by have := okB_len ho; omega) h
    rw [ho] at cO
    rw [hc, ifL0]
    clear ho hc h
    go_enter Try.func11, Try.ntmps11
    go_wp2_with (first | (go_at_call 47; refine cO.mono ?_; rintro e w' ⟨rfl, rfl⟩) | (go_at_call 48; refine cR.mono ?_; rintro e w2 ⟨u, rfl, hown, hb⟩))
    go_ret2
    exact ⟨_, rfl, hown, hb⟩
/-- What the map has behind k pages. -/
def gRep (L : List (Nat → Nat)) (k : Nat) : (Nat → Nat) → Option Int := fun f => (Gr L k f).map fun j => (j : Int)
theorem gRep_put {L : List (Nat → Nat)} {k : Nat} (h : Gr L k (fAt L k) = none) : putG (gRep L k) (fAt L k) k = gRep L (k + 1) := by
  funext f
  unfold putG gRep
  rw [Gr_put h]
  by_cases e : eqF f (fAt L k) = true
  · rw [if_pos e, if_pos e]; rfl
  · rw [if_neg e, if_neg e]
theorem gRep_stay {L : List (Nat → Nat)} {k j : Nat} (h : Gr L k (fAt L k) = some j) : gRep L k = gRep L (k + 1) := by
  funext f; unfold gRep; rw [Gr_stay h]
theorem gRep_at (L : List (Nat → Nat)) (k : Nat) : gRep L (k + 1) (fAt L k) = some (rp L k : Int) := by
  unfold gRep; rw [(rp_spec L k).1]; rfl
theorem mapf_apart {α : Type} {E : Enc α} {w : World} {base B n : Nat} {t : TypeId} {v : Value} {L : List α} {G : (Nat → Nat) → Option Int} (h : OwnL E w base t v L) (hm : MapF w B n G) : v.ownBlock ≠ some B := by
  intro e
  obtain ⟨_, _, D, ⟨es, clock, hb, _⟩, _⟩ := hm
  rcases h.form with ⟨rfl, _⟩ | ⟨g', cap, R, rfl, _, _, _, _, hr'⟩
  · simp [Value.ownBlock] at e
  · have : g' = B := by simpa [Value.ownBlock] using e
    subst this
    rw [show w.heap[g']? = _ from hr'] at hb
    cases hb
set_option maxHeartbeats 2000000 in
theorem implRepeatsIn_any (v : Value) (L : List (Nat → Nat)) (w : World) (hL : ltL L) (h : SlAt eFr w w.heap.size v L) :
    Calls Try.prog 13 #[v] w (GivesL (eI .i64) 2 (ifL (okBC L) (repL L)) (okBC L) w) := by
  have cV := implValidBook_any v L w hL h
  rcases okBC_cases L with ⟨ho, hc⟩ | ⟨ho, hc⟩
  · rw [ho] at cV
    rw [hc, ifL1 _ (by decide)]
    obtain ⟨A, c, rfl⟩ := h.form
    clear ho hc h
    go_enter Try.func13, Try.ntmps13
    go_wp2_with (go_at_call 51; refine cV.mono ?_; rintro e w1 ⟨rfl, hb1⟩)
    go_ret2
    exact ⟨_, rfl, OwnL.nil_ _ _ _, hb1⟩
  · rw [ho] at cV
    rw [hc, ifL0]
    have hlen := okB_len ho
    have hu : repL L = tab (fun i => (rp L i : Int)) L.length := rfl
    rw [hu]
    obtain ⟨A, c, rfl, h1, h2, hA⟩ := h
    unfold maxLen at h2
    have hmm := @run_makeMap Try.prog
    clear ho hc hu
    go_enter Try.func13, Try.ntmps13
    go_wp2_with (go_at_call 51; refine cV.mono ?_; rintro e w1 ⟨rfl, hb1⟩)
    clear hmm
    have hm := MapF.made w1
    have hown := OwnL.nil_ (E := eI .i64) (w1.alloc (.map #[] 0)) w.heap.size 2
    have h0 := hb1.alloc hb1.size (.map #[] 0)
    have hBs := hb1.size
    generalize w1.heap.size = B at *
    generalize (w1.alloc (.map #[] 0)) = w2 at *
    go_loopw [4, 16] (fun u i wr => ∃ k : Nat, k ≤ L.length ∧ i = .int .i64 k ∧ OwnL (eI .i64) wr w.heap.size 2 u (tab (fun i => (rp L i : Int)) k) ∧ MapF wr B k (gRep L k) ∧ Below w.heap.size w wr) (fun _ i _ => L.length - (intOf i).toNat)
    case atStart => exact ⟨0, by omega, rfl, hown, hm.ext fun f => rfl, h0⟩
    case round =>
      clear hown hm h0
      obtain ⟨k, hk, rfl, hown, hm, hb⟩ := hrel
      by_cases hlt : k < L.length
      · obtain ⟨b1, o1, rfl, hb1, r1⟩ := hA (by omega)
        have g1 := range_below (range_part r1 (fAt_get hlt)) hb hb1
        rw [eFr_n] at g1
        have hst := tab_succ (fun i => (rp L i : Int)) k
        have HST := Lib.hid hst
        have hf := fAt_lt hL k
        have hpl : (tab (fun i => (rp L i : Int)) k).length ≤ 1000000000 := by rw [tab_length]; omega
        have hat := gRep_at L k
        have hp := @gRep_put L k
        have hs := @gRep_stay L k
        have hh := @Gr_here L k
        have hG : gRep L k (fAt L k) = (Gr L k (fAt L k)).map fun j => (j : Int) := rfl
        have hz : (Lit.int .i64 (k : Int)).wf = true := by
          have e1 : IntKind.i64.min = -9223372036854775808 := by decide
          have e2 : IntKind.i64.max = 9223372036854775807 := by decide
          simp only [Lit.wf, e1, e2]; simp; omega
        have hmB := hm.lt
        have bn := Blk.new wr 64 (fAt L k)
        have hm2 := hm.alloc (.cells (FC (fAt L k)) 64)
        have hown2 := hown.alloc (.cells (FC (fAt L k)) 64)
        have hb2 := hb.alloc hb.size (.cells (FC (fAt L k)) 64)
        have hsz2 := hb2.size
        have hneB : (some B : Option Nat) ≠ some wr.heap.size := by intro e; cases e; omega
        have hneO : u4.ownBlock ≠ some B := mapf_apart hown2 hm2
        have HNE := Lib.hid hneO
        obtain ⟨w5, hw5⟩ : ∃ w5, wr.alloc (.cells (FC (fAt L k)) 64) = w5 := ⟨_, rfl⟩
        clear hA r1 hst
        rcases hh with ⟨hn, hrk⟩ | ⟨hn, hrk⟩
        · have l1 := hm2.ok_none hf (by rw [hG, hn]; rfl) Try.underlying66
          obtain ⟨w6, hup, hm6, hg6⟩ := hm2.update (by unfold maxLen; omega) hf hz Try.underlying66
          rw [hp hn] at hm6
          have l2 := hm6.at_some hf hat Try.underlying66
          have bn6 := bn.grown' hg6 hneB
          have hown6 := hown2.kept hg6 (.inr hneO)
          have hb6 := below_grown' hb2 hg6 (by omega) (by omega)
          rw [hw5] at l1 hup bn
          clear hm2 hown2 hb2 hown hm hb hneO hg6 hG hat hp hs hn hrk hmB hsz2 hneB hz
          go_wp2_with (first | (refine wpList_load_at rfl 64 62 _ rfl _ _ rfl g1 Try.underlying64 (by kernel_rfl) ?_) | (refine wpList_store_new (f0 := zeroF) (f := fAt L k) rfl 64 _ _ rfl rfl rfl (by kernel_rfl) ?_; rw [hw5]; clear g1) | (refine wpList_load_fr rfl 64 62 _ rfl _ rfl (by first | exact bn | exact bn6) Try.underlying64 (by kernel_rfl) ?_) | (at_builtin; refine wpList_append_one rfl _ _ 24 rfl w.heap.size 2 Try.underlying24 infoI64 rfl (by decide) (by omega) (hown6.alloc _) rfl (rp L k : Int) rfl (range_new _ _ _) hpl (by have := hb6.size; simp; omega) ?_; intro v' w7 hown' hgrow))
          go_roundw
          case rel =>
            go_light
            refine ⟨k + 1, by omega, by go_num, ?_, (hm6.alloc _).kept hgrow (fun e => HNE.out e.symm), (hown6.alloc _).grown_below (hb6.alloc hb6.size _) hgrow (Nat.le_refl _) (by have := hb6.size; simp; omega)⟩
            rw [HST.out]; exact hown'
          case measure => simp [intOf]; omega
        · have l1 := hm2.ok_some hf (by rw [hG, hn]; rfl) Try.underlying66
          have l2 := (hm2.ext fun f => congrFun (hs hn) f).at_some hf hat Try.underlying66
          have hm6 := (hm2.ext fun f => congrFun (hs hn) f).mono (Nat.le_succ k)
          have bn6 := bn
          have hown6 := hown2
          have hb6 := hb2
          rw [hw5] at l1 l2 bn bn6 hm6 hown6 hb6
          clear hm2 hown2 hb2 hown hm hb hneO hG hat hp hs hn hrk hmB hsz2 hneB hz
          go_wp2_with (first | (refine wpList_load_at rfl 64 62 _ rfl _ _ rfl g1 Try.underlying64 (by kernel_rfl) ?_) | (refine wpList_store_new (f0 := zeroF) (f := fAt L k) rfl 64 _ _ rfl rfl rfl (by kernel_rfl) ?_; rw [hw5]; clear g1) | (refine wpList_load_fr rfl 64 62 _ rfl _ rfl (by first | exact bn | exact bn6) Try.underlying64 (by kernel_rfl) ?_) | (at_builtin; refine wpList_append_one rfl _ _ 24 rfl w.heap.size 2 Try.underlying24 infoI64 rfl (by decide) (by omega) (hown6.alloc _) rfl (rp L k : Int) rfl (range_new _ _ _) hpl (by have := hb6.size; simp; omega) ?_; intro v' w7 hown' hgrow))
          go_roundw
          case rel =>
            go_light
            refine ⟨k + 1, by omega, by go_num, ?_, (hm6.alloc _).kept hgrow (fun e => HNE.out e.symm), (hown6.alloc _).grown_below (hb6.alloc hb6.size _) hgrow (Nat.le_refl _) (by have := hb6.size; simp; omega)⟩
            rw [HST.out]; exact hown'
          case measure => simp [intOf]; omega
      · have hkl : k = L.length := by omega
        subst hkl
        clear hA
        go_wp2
        go_ret2
        exact ⟨_, rfl, hown, hb⟩
end Go.Proofs.Ytkcomhbmhgnhhab
