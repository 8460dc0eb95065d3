/- DistinctPages: spec and impl. -/
import Derived.Test.YtkcomhbmhgnhhabRows
import Derived.Test.YtkcomhbmhgnhhabRep
import Derived.Test.YtkcomhbmhgnhhabApart
import Derived.Test.YtkcomhbmhgnhhabBack
import Derived.Test.YtkcomhbmhgnhhabIJumps
namespace Go.Proofs.Ytkcomhbmhgnhhab
set_option maxRecDepth 100000
open Go.RowKit
set_option linter.unusedVariables false
set_option linter.unusedSimpArgs false
theorem plcL_len (L : List (Nat → Nat)) : (plcL L).length = L.length := tab_length _ _
theorem rp_idem (L : List (Nat → Nat)) (k : Nat) : rp L (rp L k) = rp L k := by
  obtain ⟨_, h1, h2, h3⟩ := rp_spec L k
  refine rp_of (Nat.le_refl _) (eqF_refl _) fun q hq => ?_
  have := h3 q hq
  rw [Bool.eq_false_iff] at this ⊢
  exact fun e => this (eqF_trans e h2)
theorem repL_get {L : List (Nat → Nat)} {k : Nat} (h : k < L.length) : (repL L).getD k 0 = rp L k := by unfold repL; rw [List.getD_eq_getElem?_getD, tab_get _ h]; rfl
theorem plc_get {L : List (Nat → Nat)} {k j : Nat} (h : j < k) : (tab (fun i => (fcnt L (rp L i) : Int)) k).getD j 0 = fcnt L (rp L j) := by rw [List.getD_eq_getElem?_getD, tab_get _ h]; rfl
/-- A book and a list of numbers, of the call's own. -/
def GivesBI (M : List (Nat → Nat)) (N : List Int) (T : Value → Value → Value) (w : World) (e : Ending) (w' : World) : Prop :=
  ∃ v u, e = .returned (T v u) ∧ OwnL eFr w' w.heap.size 64 v M ∧ OwnL (eI .i64) w' w.heap.size 2 u N ∧ Below w.heap.size w w'
set_option maxHeartbeats 2000000 in
theorem distinctS_any (v : Value) (L : List (Nat → Nat)) (w : World) (hlen : L.length ≤ 1000000) (h : SlAt eFr w w.heap.size v L) :
    Calls Try.prog 52 #[v] w (GivesBI (dstL L L.length) (plcL L) (fun v u => .tuple #[v, u]) w) := by
  have cR := repeats_any v L w hlen h
  have hLa := fun w' (hb : Below w.heap.size w w') => h.later hb
  obtain ⟨A, c, rfl⟩ := h.form
  have hu : plcL L = tab (fun i => (fcnt L (rp L i) : Int)) L.length := rfl
  rw [hu]
  clear hu h
  go_enter Try.func52, Try.ntmps52
  go_wp2_with (go_at_call 48; refine cR.mono ?_; rintro e w1 ⟨x, rfl, hrep, hb1⟩)
  have hR := hrep.sl (by decide)
  have hB := hLa w1 hb1
  have hbz := hb1.size
  clear hLa hrep cR
  obtain ⟨A1, c1, rfl, h1, h2, hA⟩ := hR
  obtain ⟨B, d, hv, h3, h4, hBB⟩ := hB
  cases hv
  rw [repL_len] at h1 hA
  unfold maxLen at h2 h4
  have ho1 := (OwnL.made (E := eFr) w1 w1.heap.size 64 (Nat.le_refl _)).alloc (.cells #[] 2)
  have ho2 := OwnL.made (E := eI .i64) (w1.alloc (.cells #[] 64)) w1.heap.size 2 (by simp)
  have h0 := ((Below.refl w1.heap.size w1).alloc (Nat.le_refl _) (.cells #[] 64)).alloc (by simp) (.cells #[] 2)
  rw [World.size_alloc] at ho2
  go_wp2
  go_loopw [5, 6, 7] (fun u q i wr => ∃ k : Nat, k ≤ L.length ∧ i = .int .i64 k ∧ OwnL eFr wr w1.heap.size 64 u (dstL L k) ∧ OwnL (eI .i64) wr w1.heap.size 2 q (tab (fun i => (fcnt L (rp L i) : Int)) k) ∧ Below w1.heap.size w1 wr) (fun _ _ i _ => L.length - (intOf i).toNat)
  case atStart => exact ⟨0, by omega, rfl, ho1, ho2, h0⟩
  case round =>
    clear ho1 ho2 h0
    obtain ⟨k, hk, rfl, ho1, ho2, hb⟩ := hrel
    by_cases hlt : k < L.length
    · obtain ⟨b1, o1, rfl, hb1', r1⟩ := hA (by omega)
      obtain ⟨b2, o2, rfl, hb2', r2⟩ := hBB (by omega)
      have g0 := range_part r2 (fAt_get hlt)
      have g2 := range_below g0 hb hb2'
      rw [eFr_n] at g0 g2
      have cr := int_cell (range_below r1 hb hb1') (i := k) (by rw [repL_len]; exact hlt)
      rw [repL_get hlt] at cr
      have hfc := fcnt_le L k
      have hl1 := dstL_len L k
      have hst := tab_succ (fun i => (fcnt L (rp L i) : Int)) k
      have hrk := (rp_spec L k).2.1
      have hpl : (tab (fun i => (fcnt L (rp L i) : Int)) k).length ≤ 1000000000 := by rw [tab_length]; omega
      have hpl1 : (dstL L k).length ≤ 1000000000 := by omega
      have kk : IntKind.i64.wrap (k : Int) = (k : Int) := IntWalk.i64_in _ (by omega)
      have hkr : k < (repL L).length := by rw [repL_len]; exact hlt
      clear hA hBB r1 r2
      by_cases hr : rp L k = k
      · rw [hr] at cr
        have hd : dstL L (k + 1) = dstL L k ++ [fAt L k] := by show (if rp L k = k then _ else _) = _; rw [if_pos hr]
        have hf : ((fcnt L (rp L k) : Nat) : Int) = ((dstL L k).length : Int) := by rw [hr, hl1]
        have HF := Lib.hid hf
        have HD := Lib.hid hd
        have HST := Lib.hid hst
        have e1 : ((k : Int) == (k : Int)) = true := by simp
        have hvf := ho1.val
        obtain ⟨A5, c5, rfl⟩ := hvf
        clear hd hf hst hl1 hr hfc hrk
        have hap := own_apart_t ho1 ho2 (by decide)
        have hbz2 := hb.size
        go_wp2_with (first | (refine wpList_load_at rfl 64 62 _ rfl _ _ rfl g3 Try.underlying64 (by kernel_rfl) ?_) | (refine wpList_build1 (v := .agg (FC (fAt L k))) (cs := FC (fAt L k)) rfl 28 64 _ rfl rfl (fun w => run_build_frs w (fAt L k)) ?_) | (at_builtin; refine wpList_append_one rfl _ _ 24 rfl w1.heap.size 2 Try.underlying24 infoI64 rfl (by decide) (by omega) (ho2.alloc _) rfl ((dstL L k).length : Int) rfl (range_new _ _ _) hpl (by simp; omega) ?_; intro v' w4 ho2' hgrow; have ho1' := (ho1.alloc (.cells #[Value.int .i64 ((dstL L k).length : Int)] 2)).kept hgrow hap; have hb4 := (ho2.alloc (.cells #[Value.int .i64 ((dstL L k).length : Int)] 2)).grown_below (hb.alloc hb.size _) hgrow (Nat.le_refl _) (by simp; omega); have g3 := range_below g0 hb4 hb2'; have hz4 := hb4.size; clear ho1 ho2 hb hgrow g0 cr g2) | (at_builtin; refine wpList_append_one rfl _ _ 28 rfl w1.heap.size 64 Try.underlying28 infoFrL rfl (by decide) (by omega) (ho1'.alloc (.cells (FC (fAt L k)) 64)) rfl (fAt L k) rfl (range_new _ _ (FC (fAt L k))) hpl1 (by simp; omega) ?_; intro v'' w6 ho1'' hgrow2))
        go_roundw
        case rel =>
          go_light
          have ho2'' := (ho2'.alloc (.cells (FC (fAt L k)) 64)).kept hgrow2 (own_apart_t ho2' ho1' (by decide))
          refine ⟨k + 1, by omega, by go_num, ?_, ?_, (ho1'.alloc _).grown_below (hb4.alloc hb4.size _) hgrow2 (Nat.le_refl _) (by simp; omega)⟩
          · rw [HD.out]; exact ho1''
          · rw [HST.out, HF.out]; exact ho2''
        case measure => simp [intOf]; omega
      · have hrl : rp L k < k := by omega
        have hd : dstL L (k + 1) = dstL L k := by show (if rp L k = k then _ else _) = _; rw [if_neg hr]
        have HD := Lib.hid hd
        have HST := Lib.hid hst
        have e1 : ((rp L k : Int) == (k : Int)) = false := by rw [beq_eq_false_iff_ne]; omega
        have hs2 := ho2.sl (by decide)
        obtain ⟨A6, c6, rfl, h5, h6, hC⟩ := hs2
        rw [tab_length] at h5 hC
        obtain ⟨b3, o3, rfl, hb3', r3⟩ := hC (by omega)
        have cp := int_cell r3 (i := rp L k) (by rw [tab_length]; omega)
        rw [plc_get hrl, rp_idem] at cp
        rw [tab_length] at *
        unfold maxLen at h6
        clear hd hst hl1 hr hfc hC r3 g2 g0
        generalize rp L k = r at *
        generalize fcnt L r = z at *
        have hap := own_apart_t ho1 ho2 (by decide)
        go_wp2_with (at_builtin; refine wpList_append_one rfl _ _ 24 rfl w1.heap.size 2 Try.underlying24 infoI64 rfl (by decide) (by omega) (ho2.alloc _) rfl (z : Int) rfl (range_new _ _ _) (by rw [tab_length]; exact hpl) (by have := hb.size; simp; omega) ?_; intro v' w4 ho2' hgrow)
        go_roundw
        case rel =>
          go_light
          have ho1' := (ho1.alloc (.cells #[Value.int .i64 (z : Int)] 2)).kept hgrow hap
          refine ⟨k + 1, by omega, by go_num, ?_, ?_, (ho2.alloc _).grown_below (hb.alloc hb.size _) hgrow (Nat.le_refl _) (by have := hb.size; simp; omega)⟩
          · rw [HD.out]; exact ho1'
          · rw [HST.out]; exact ho2'
        case measure => simp [intOf]; omega
    · have hkl : k = L.length := by omega
      subst hkl
      clear hA hBB
      go_wp2
      go_ret2
      exact ⟨_, _, rfl, ho1.mono hbz, ho2.mono hbz, grown_below hb1 hb hb1.size⟩
/-- What the map has behind k pages. -/
def gDst (L : List (Nat → Nat)) (k : Nat) : (Nat → Nat) → Option Int := fun f => (Gr L k f).map fun j => (fcnt L j : Int)
theorem gDst_put {L : List (Nat → Nat)} {k : Nat} (h : Gr L k (fAt L k) = none) : putG (gDst L k) (fAt L k) (fcnt L k) = gDst L (k + 1) := by
  funext f
  unfold putG gDst
  rw [Gr_put h]
  by_cases e : eqF f (fAt L k) = true
  · rw [if_pos e, if_pos e]; rfl
  · rw [if_neg e, if_neg e]
theorem gDst_stay {L : List (Nat → Nat)} {k j : Nat} (h : Gr L k (fAt L k) = some j) : gDst L k = gDst L (k + 1) := by
  funext f; unfold gDst; rw [Gr_stay h]
theorem gDst_at (L : List (Nat → Nat)) (k : Nat) : gDst L (k + 1) (fAt L k) = some (fcnt L (rp L k) : Int) := by
  unfold gDst; rw [(rp_spec L k).1]; rfl
set_option maxHeartbeats 4000000 in
theorem distinctI_any (v : Value) (L : List (Nat → Nat)) (w : World) (hL : ltL L) (hlen : L.length ≤ 1000000) (h : SlAt eFr w w.heap.size v L) :
    Calls Try.prog 53 #[v] w (GivesBI (dstL L L.length) (plcL L) (fun v u => .tuple #[v, u]) w) := by
  have hu : plcL L = tab (fun i => (fcnt L (rp L i) : Int)) L.length := rfl
  rw [hu]
  obtain ⟨A, c, rfl, h1, h2, hA⟩ := h
  unfold maxLen at h2
  have hmm := @run_makeMap Try.prog
  have hm := MapF.made w
  have ho1 := OwnL.nil_ (E := eFr) (w.alloc (.map #[] 0)) w.heap.size 64
  have ho2 := OwnL.nil_ (E := eI .i64) (w.alloc (.map #[] 0)) w.heap.size 2
  have h0 := (Below.refl w.heap.size w).alloc (Nat.le_refl _) (.map #[] 0)
  clear hu
  go_enter Try.func53, Try.ntmps53
  go_wp2
  clear hmm
  generalize hB : w.heap.size = B at *
  generalize (w.alloc (.map #[] 0)) = w2 at *
  rw [← hB] at h0 ho1 ho2
  have hBs : w.heap.size ≤ B := by omega
  have hbb := h0.size
  have hlt0 : ∀ {X Y : Nat}, X < w.heap.size → X < B := fun h => by omega
  subst hB
  go_loopw [4, 5, 14] (fun u q i wr => ∃ k : Nat, k ≤ L.length ∧ i = .int .i64 k ∧ OwnL eFr wr w.heap.size 64 u (dstL L k) ∧ OwnL (eI .i64) wr w.heap.size 2 q (tab (fun i => (fcnt L (rp L i) : Int)) k) ∧ MapF wr w.heap.size k (gDst L k) ∧ Below w.heap.size w wr) (fun _ _ i _ => L.length - (intOf i).toNat)
  case atStart => exact ⟨0, by omega, rfl, ho1, ho2, hm.ext fun f => rfl, h0⟩
  case round =>
    clear ho1 ho2 hm h0
    obtain ⟨k, hk, rfl, ho1, ho2, hm, hb⟩ := hrel
    by_cases hlt : k < L.length
    · obtain ⟨b1, o1, rfl, hb1, r1⟩ := hA (by omega)
      have g1 := range_below (range_part r1 (fAt_get hlt)) hb hb1
      rw [eFr_n] at g1
      have hst := tab_succ (fun i => (fcnt L (rp L i) : Int)) k
      have HST := Lib.hid hst
      have hf := fAt_lt hL k
      have hpl : (tab (fun i => (fcnt L (rp L i) : Int)) k).length ≤ 1000000000 := by rw [tab_length]; omega
      have hfc := fcnt_le L k
      have hl1 := dstL_len L k
      have hpl1 : (dstL L k).length ≤ 1000000000 := by omega
      have hat := gDst_at L k
      have hp := @gDst_put L k
      have hs := @gDst_stay L k
      have hh := @Gr_here L k
      have hG : gDst L k (fAt L k) = (Gr L k (fAt L k)).map fun j => (fcnt L j : Int) := rfl
      have hz : (Lit.int .i64 (fcnt L k : Int)).wf = true := by
        have e1 : IntKind.i64.min = -9223372036854775808 := by decide
        have e2 : IntKind.i64.max = 9223372036854775807 := by decide
        simp only [Lit.wf, e1, e2]; simp; omega
      have hmB := hm.lt
      have bn := Blk.new wr 64 (fAt L k)
      have hm2 := hm.alloc (.cells (FC (fAt L k)) 64)
      have ho12 := ho1.alloc (.cells (FC (fAt L k)) 64)
      have ho22 := ho2.alloc (.cells (FC (fAt L k)) 64)
      have hb2 := hb.alloc hb.size (.cells (FC (fAt L k)) 64)
      have hsz2 := hb2.size
      have hneB : (some w.heap.size : Option Nat) ≠ some wr.heap.size := by intro e; injection e with e; omega
      have hne5 : u4.ownBlock ≠ some wr.heap.size := ho1.ne_hi (Nat.le_refl _)
      have HN5 := Lib.hid hne5
      have hne1 : u4.ownBlock ≠ some w.heap.size := mapf_apart ho12 hm2
      have hne2 : u5.ownBlock ≠ some w.heap.size := mapf_apart ho22 hm2
      have hap := own_apart_t ho1 ho2 (by decide)
      have HN1 := Lib.hid hne1
      have HN2 := Lib.hid hne2
      have HAP := Lib.hid hap
      obtain ⟨w5, hw5⟩ : ∃ w5, wr.alloc (.cells (FC (fAt L k)) 64) = w5 := ⟨_, rfl⟩
      clear hA r1 hst hne5
      rcases hh with ⟨hn, hrk⟩ | ⟨hn, hrk⟩
      · have l1 := hm2.ok_none hf (by rw [hG, hn]; rfl) Try.underlying66
        obtain ⟨w6, hup, hm6, hg6⟩ := hm2.update (by unfold maxLen; omega) hf hz Try.underlying66
        rw [hp hn] at hm6
        have bn6 := bn.grown' hg6 hneB
        have ho16 := ho12.kept hg6 (.inr hne1)
        have ho26 := ho22.kept hg6 (.inr hne2)
        have hb6 := below_grown' hb2 hg6 (by omega) (by omega)
        have hz6 := hb6.size
        have bl6 := bn6.lt
        have hd : dstL L (k + 1) = dstL L k ++ [fAt L k] := by show (if rp L k = k then _ else _) = _; rw [if_pos hrk]
        have HD := Lib.hid hd
        have hvf := ho1.val
        obtain ⟨A5, c5, hv5⟩ := hvf
        subst hv5
        have hlc : ((fcnt L k : Nat) : Int) = ((dstL L k).length : Int) := by rw [hl1]
        rw [hw5] at l1 hup bn
        rw [hlc] at hup
        clear hm2 ho12 ho22 hb2 ho1 ho2 hm hb hne1 hne2 hap hg6 hG hp hs hn hrk hmB hsz2 hneB hz hd hlc hl1 hfc
        go_wp2_with (first | (refine wpList_load_at rfl 64 62 _ rfl _ _ rfl g1 Try.underlying64 (by kernel_rfl) ?_) | (refine wpList_store_new (f0 := zeroF) (f := fAt L k) rfl 64 _ _ rfl rfl rfl (by kernel_rfl) ?_; rw [hw5]; clear g1) | (refine wpList_load_fr rfl 64 62 _ rfl _ rfl (by first | exact bn | exact bn6 | exact bn7) Try.underlying64 (by kernel_rfl) ?_) | (refine wpList_build1 (v := .agg (FC (fAt L k))) (cs := FC (fAt L k)) rfl 28 64 _ rfl rfl (fun w => run_build_frs w (fAt L k)) ?_) | (at_builtin; refine wpList_append_one rfl _ _ 28 rfl w.heap.size 64 Try.underlying28 infoFrL rfl (by decide) (by omega) (ho16.alloc (.cells (FC (fAt L k)) 64)) rfl (fAt L k) rfl (range_new _ _ (FC (fAt L k))) hpl1 (by simp; omega) ?_; intro v7 w7 ho1' hgrow7; have ho2x := (ho26.alloc (.cells (FC (fAt L k)) 64)).kept hgrow7 (own_apart_t ho26 ho16 (by decide)); have hb7 := (ho16.alloc (.cells (FC (fAt L k)) 64)).grown_below (hb6.alloc hb6.size _) hgrow7 (Nat.le_refl _) (by simp; omega); have hm7 := (hm6.alloc (.cells (FC (fAt L k)) 64)).kept hgrow7 (fun e => HN1.out e.symm); have bn7 := (bn6.alloc (.cells (FC (fAt L k)) 64)).grown' hgrow7 HN5.out; have l2 := hm7.at_some hf hat Try.underlying66; have hz7 := hb7.size; clear ho16 ho26 hb6 hm6 bn6 hgrow7) | (at_builtin; refine wpList_append_one rfl _ _ 24 rfl w.heap.size 2 Try.underlying24 infoI64 rfl (by decide) (by omega) (ho2x.alloc _) rfl (fcnt L (rp L k) : Int) rfl (range_new _ _ _) hpl (by simp; omega) ?_; intro v9 w9 ho2' hgrow9))
        go_roundw
        case rel =>
          go_light
          have ho1'' := (ho1'.alloc (.cells #[.int .i64 (fcnt L (rp L k) : Int)] 2)).kept hgrow9 (own_apart_t ho1' ho2x (by decide))
          refine ⟨k + 1, by omega, by go_num, ?_, ?_, (hm7.alloc _).kept hgrow9 (fun e => HN2.out e.symm), (ho2x.alloc _).grown_below (hb7.alloc hb7.size _) hgrow9 (Nat.le_refl _) (by simp; omega)⟩
          · rw [HD.out]; exact ho1''
          · rw [HST.out]; exact ho2'
        case measure => simp [intOf]; omega
      · have l1 := hm2.ok_some hf (by rw [hG, hn]; rfl) Try.underlying66
        have hm6 := (hm2.ext fun f => congrFun (hs hn) f).mono (Nat.le_succ k)
        have l2 := hm6.at_some hf hat Try.underlying66
        have ho26 := ho22
        have ho16 := ho12
        have hb6 := hb2
        have hd : dstL L (k + 1) = dstL L k := by show (if rp L k = k then _ else _) = _; rw [if_neg (by omega)]
        have HD := Lib.hid hd
        rw [hw5] at l1 l2 bn hm6 ho26 ho16 hb6
        have hz6 := hb6.size
        clear hm2 ho12 ho22 hb2 ho1 ho2 hm hb hne1 hne2 hG hp hs hn hrk hmB hsz2 hneB hz hd hl1 hfc
        go_wp2_with (first | (refine wpList_load_at rfl 64 62 _ rfl _ _ rfl g1 Try.underlying64 (by kernel_rfl) ?_) | (refine wpList_store_new (f0 := zeroF) (f := fAt L k) rfl 64 _ _ rfl rfl rfl (by kernel_rfl) ?_; rw [hw5]; clear g1) | (refine wpList_load_fr rfl 64 62 _ rfl _ rfl bn Try.underlying64 (by kernel_rfl) ?_) | (at_builtin; refine wpList_append_one rfl _ _ 24 rfl w.heap.size 2 Try.underlying24 infoI64 rfl (by decide) (by omega) (ho26.alloc _) rfl (fcnt L (rp L k) : Int) rfl (range_new _ _ _) hpl (by simp; omega) ?_; intro v9 w9 ho2' hgrow9))
        go_roundw
        case rel =>
          go_light
          have ho1'' := (ho16.alloc (.cells #[.int .i64 (fcnt L (rp L k) : Int)] 2)).kept hgrow9 HAP.out
          refine ⟨k + 1, by omega, by go_num, ?_, ?_, (hm6.alloc _).kept hgrow9 (fun e => HN2.out e.symm), (ho26.alloc _).grown_below (hb6.alloc hb6.size _) hgrow9 (Nat.le_refl _) (by simp; omega)⟩
          · rw [HD.out]; exact ho1''
          · rw [HST.out]; exact ho2'
        case measure => simp [intOf]; omega
    · have hkl : k = L.length := by omega
      subst hkl
      clear hA
      go_wp2
      go_ret2
      exact ⟨_, _, rfl, ho1, ho2, hb⟩
set_option maxHeartbeats 1000000 in
theorem specDistinctPages_any (v : Value) (L : List (Nat → Nat)) (w : World) (hL : ltL L) (h : SlAt eFr w w.heap.size v L) :
    Calls Try.prog 19 #[v] w (GivesBI (ifL (okBC L) (dstL L L.length)) (ifL (okBC L) (plcL L)) (fun x y => .tuple #[x, y, .int .i64 (okBC L)]) w) := by
  have cO := specOk_any v L w h
  rcases okBC_cases L with ⟨ho, hc⟩ | ⟨ho, hc⟩
  · obtain ⟨A, c, rfl⟩ := h.form
    rw [ho] at cO
    rw [hc, ifL1 _ (by decide), ifL1 _ (by decide)]
    clear ho hc h
    go_enter Try.func19, Try.ntmps19
    go_wp2_with (go_at_call 47; refine cO.mono ?_; rintro e w1 ⟨rfl, rfl⟩)
    go_ret3
    have ho2 := OwnL.made (E := eI .i64) (w.alloc (.cells #[] 64)) w.heap.size 2 (by simp)
    rw [World.size_alloc] at ho2
    exact ⟨_, _, rfl, (OwnL.made _ w.heap.size _ (Nat.le_refl _)).alloc _, ho2, ((Below.refl _ _).alloc (Nat.le_refl _) _).alloc (by simp) _⟩
  · have cD := distinctS_any v L w (by have := okB_len ho; omega) h
    obtain ⟨A, c, rfl⟩ := h.form
    rw [ho] at cO
    rw [hc, ifL0, ifL0]
    clear ho hc h
    go_enter Try.func19, Try.ntmps19
    go_wp2_with (first | (go_at_call 47; refine cO.mono ?_; rintro e w1 ⟨rfl, rfl⟩) | (go_at_call 52; refine cD.mono ?_; rintro e w2 ⟨x, y, rfl, ho1, ho2, hb2⟩))
    go_ret3
    exact ⟨_, _, rfl, ho1, ho2, hb2⟩
set_option maxHeartbeats 1000000 in
theorem implDistinctPages_any (v : Value) (L : List (Nat → Nat)) (w : World) (hL : ltL L) (h : SlAt eFr w w.heap.size v L) :
    Calls Try.prog 20 #[v] w (GivesBI (ifL (okBC L) (dstL L L.length)) (ifL (okBC L) (plcL L)) (fun x y => .tuple #[x, y, .int .i64 (okBC L)]) w) := by
  have cO := implValidBook_any v L w hL h
  rcases okBC_cases L with ⟨ho, hc⟩ | ⟨ho, hc⟩
  · obtain ⟨A, c, rfl⟩ := h.form
    rw [ho] at cO
    rw [hc, ifL1 _ (by decide), ifL1 _ (by decide)]
    clear ho hc h
    go_enter Try.func20, Try.ntmps20
    go_wp2_with (go_at_call 51; refine cO.mono ?_; rintro e w1 ⟨rfl, hb1⟩)
    go_ret3
    exact ⟨_, _, rfl, OwnL.nil_ _ _ _, OwnL.nil_ _ _ _, hb1⟩
  · have cD := fun (w1 : World) (hb : Below w.heap.size w w1) => distinctI_any v L w1 hL (by have := okB_len ho; omega) (h.later hb)
    obtain ⟨A, c, rfl⟩ := h.form
    rw [ho] at cO
    rw [hc, ifL0, ifL0]
    have CD := Lib.hid cD
    clear cD
    clear ho hc h
    go_enter Try.func20, Try.ntmps20
    go_wp2_with (first | (go_at_call 51; refine cO.mono ?_; rintro e w1 ⟨rfl, hb1⟩) | (go_at_call 53; refine (CD.out _ hb1).mono ?_; rintro e w2 ⟨x, y, rfl, ho1, ho2, hb2⟩))
    go_ret3
    exact ⟨_, _, rfl, ho1.mono hb1.size, ho2.mono hb1.size, grown_below hb1 hb2 hb1.size⟩
theorem dst_if_len (L : List (Nat → Nat)) : (ifL (okBC L) (dstL L L.length)).length ≤ 40 := by
  rcases okBC_cases L with ⟨ho, hc⟩ | ⟨ho, hc⟩
  · rw [hc, ifL1 _ (by decide)]; simp
  · rw [hc, ifL0, dstL_len]; have := fcnt_le L L.length; have := okB_len ho; omega
theorem plc_if_len (L : List (Nat → Nat)) : (ifL (okBC L) (plcL L)).length ≤ 40 := by
  rcases okBC_cases L with ⟨ho, hc⟩ | ⟨ho, hc⟩
  · rw [hc, ifL1 _ (by decide)]; simp
  · rw [hc, ifL0, plcL_len]; have := okB_len ho; omega
end Go.Proofs.Ytkcomhbmhgnhhab
