/- impl: Track.backward. -/
import Derived.Test.YtennmnkjdchbhabDoorBackW
import Derived.Test.YtennmnkjdchbhabDoorTicksT
import Derived.Test.YtennmnkjdchbhabDoorShift
import Derived.Test.YtennmnkjdchbhabDoorCellQ
namespace Go.Proofs.YtennmnkjdchbhabDoor
open Go.RowKit Go.Shelf
set_option linter.unusedVariables false
attribute [local go_sem] Oper.semAt_some
/-- The keys behind what has come. -/
def bkM (L : List (Int × Int × Int)) (x : Nat × (Int × Int × Int)) : Int × Int × Int := ((kAt L 0).1 + (kAt L (L.length - 1)).1 - x.2.1, x.2.2.1, x.2.2.2)
theorem bkM_all (L : List (Int × Int × Int)) : (bwL L).map (bkM L) = bkL L := by
  unfold bwL bkL tab
  rw [List.map_map]
  rfl
theorem bwL_len (L : List (Int × Int × Int)) : (bwL L).length = L.length := tab_length _ _
theorem bw_mem {L : List (Int × Int × Int)} {x : Nat × (Int × Int × Int)} (h : x ∈ bwL L) : ∃ i, i < L.length ∧ x.2 = kAt L i := by
  unfold bwL tab at h
  obtain ⟨j, hj, rfl⟩ := List.mem_map.1 h
  exact ⟨L.length - 1 - j, by have := List.mem_range.1 hj; omega, rfl⟩
def bkP (L : List (Int × Int × Int)) (pre : List { x // x ∈ bwL L }) : List (Int × Int × Int) := pre.map fun x => bkM L x.1
set_option maxRecDepth 100000 in
set_option maxHeartbeats 4000000 in
theorem backTr_any (v : Value) (L : List (Int × Int × Int)) (w : World) (ho : okT L = true) (h : SlAt eKy w w.heap.size v L) :
    Calls Tryd.prog 40 #[v] w (GivesV eKy 60 (bkL L) w) := by
  have hlen := (okT_iff.1 ho).1
  obtain ⟨A, c, rfl⟩ := h.form
  refine (callsIn_wide (n := 4)).1 ?_
  refine callsIn_of_wp_marks Tryd.func40 rfl trivial ?_ rfl
  simp only [Tryd.ntmps40, List.size_toArray, List.length_cons, List.length_nil, Nat.reduceAdd, Nat.reduceSub, Array.replicate_succ, Array.replicate_zero, List.push_toArray, List.append_toArray, List.nil_append, List.cons_append]
  have bT := ((Boxed.new w 25 (.slice A L.length c)).alloc (.cells #[.slice none 0 0] 25)).alloc (.cells #[.slice A L.length c] 25)
  have bO := (Boxed.new (w.alloc (.cells #[.slice A L.length c] 25)) 25 (.slice none 0 0)).alloc (.cells #[.slice A L.length c] 25)
  have bS := Boxed.new ((w.alloc (.cells #[.slice A L.length c] 25)).alloc (.cells #[.slice none 0 0] 25)) 25 (.slice A L.length c)
  have h0 := (((Below.refl w.heap.size w).alloc (Nat.le_refl _) (.cells #[.slice A L.length c] 25)).alloc (by simp) (.cells #[.slice none 0 0] 25)).alloc (by simp; omega) (.cells #[.slice A L.length c] 25)
  simp only [World.size_alloc] at bO bS
  have hsz : (((w.alloc (.cells #[.slice A L.length c] 25)).alloc (.cells #[.slice none 0 0] 25)).alloc (.cells #[.slice A L.length c] 25)).heap.size = w.heap.size + 1 + 1 + 1 := by simp
  gi_wp2_with (refine ⟨trivial, ?_⟩; gi_at_call 68; refine (backward_in 3 A L.length c _).mono ?_; rintro e w' ⟨rfl, rfl⟩)
  generalize World.alloc _ _ = w2 at *
  refine wpIn_rangeFunc_ownH rfl (by omega) (gf := 94) (lb := #[.pointer (some ⟨w.heap.size + 1 + 1, 0, none⟩)]) rfl trivial (enters_of Tryd.func94 (by kernel_rfl) rfl)
    (back_stops 3 (by omega) (w.heap.size + 1 + 1) w.heap.size A c L w2 bS (by omega) (by omega) (h.keep fun b hb => h0.block b hb)).stops (fun h k => KeepB.t h k) (KeepB.b (by omega) (by omega)) (Below.refl _ _) (fun _ => rfl)
    (fun pre W => ((Boxed W w.heap.size 25 (.slice A L.length c) ∧ (∃ v, Boxed W (w.heap.size + 1) 25 v ∧ OwnL eKy W w.heap.size 60 v (bkP L pre) ∧ True)) ∧ Boxed W (w.heap.size + 1 + 1) 25 (.slice A L.length c)) ∧ Below w.heap.size w W)
    (fun _ _ _ => False)
    (OwnFrom.and (OwnFrom.and (OwnFrom.and (Own.from (boxed_own _ _ _) _) (Own.from (holdsRow_own w.heap.size (w.heap.size + 1) 25 60 eKy.n (fun pre : List { x // x ∈ bwL L } => (bkP L pre).length) (fun pre => eKy.cells (bkP L pre)) (fun pre v => True)) _)) (Own.from (boxed_own _ _ _) _)) (ownFrom_below (Nat.le_refl _) (by omega)))
    (fun _ _ _ _ _ hs _ _ => hs)
    ⟨⟨⟨bT, ⟨_, bO, OwnL.nil_ _ _ _, trivial⟩⟩, bS⟩, h0⟩
    (fun x a' W => ∃ Bx v, w.heap.size + 1 + 1 < Bx ∧ Row W Bx 60 (KC x.1.2) ∧ (Boxed W (w.heap.size + 1) 25 v ∧ v.ownBlock ≠ some Bx) ∧ a' = { tmps := #[.slice A L.length c, .pointer (some ⟨w.heap.size, 0, none⟩), .slice none 0 0, .pointer (some ⟨w.heap.size + 1, 0, none⟩), undef, .pointer (some ⟨Bx, 0, none⟩), .slice A L.length c, .func (.func 94) #[] #[.pointer (some ⟨w.heap.size + 1 + 1, 0, none⟩)], .int .i64 (x.1.1 : Int), .agg (KC x.1.2), undef, undef, undef, undef, undef, undef, undef, undef, undef, undef, undef, undef, undef, undef, undef, undef, undef], defers := [] })
    (fun x a' _ X Y row hs hg hr => by obtain ⟨Bx, v, h1, h2, ⟨h3, h4⟩, h5⟩ := hs; exact ⟨Bx, v, h1, h2.kept hg (fun r e => (hr r e).2), ⟨boxed_own (w.heap.size + 1) 25 (fun (_ : Unit) => v) () X Y row h3 hg (fun r e => (hr r e).2), h4⟩, h5⟩)
    ?assign ?body ?done ?stop
  case assign =>
    rintro l pre x W K ⟨⟨⟨hT, v, hv, hown, _⟩, hS⟩, hB1⟩ hK
    have hl3 := hS.lt
    unfold bwEnc
    refine round_list ?_
    go_wp2_with (refine wpList_store_row rfl 60 _ _ rfl _ rfl (Row.new W 60 _) rfl rfl (by simp [Value.oneCell', KC]) (by kernel_rfl) ?_; rw [setRow_new])
    exact hK _ _ ((KeepsOthers.alloc _ _).from _) (KeepB.boxed ((Below.refl _ W).alloc hB1.size _) hS (hS.alloc _)) ⟨⟨⟨hT.alloc _, v, hv.alloc _, hown.alloc _, trivial⟩, hS.alloc _⟩, hB1.alloc hB1.size _⟩ ⟨W.heap.size, v, hl3, Row.new W _ _, ⟨hv.alloc _, hown.ne_hi (Nat.le_refl _)⟩, rfl⟩
  case body =>
    rintro l pre x a' W hl _ ⟨⟨⟨hT, v, hv, hown, _⟩, hS⟩, hB1⟩ ⟨Bx, v', hBx, bX, ⟨hv', hne⟩, rfl⟩ hpl
    obtain rfl : v = v' := by
      have := (show W.heap[w.heap.size + 1]? = _ from hv).symm.trans hv'
      simpa using this
    clear hv'
    obtain ⟨x, hx⟩ := x
    obtain ⟨ix, hix, hxk⟩ := bw_mem hx
    have k0 := okT_key ho (show 0 < L.length by omega)
    have kl := okT_key ho (show L.length - 1 < L.length by omega)
    have km := okT_key ho hix
    rw [← hxk] at km
    have hLS := h.keep (w' := W) fun b hb => hB1.block b hb
    obtain ⟨A', c', hvv, _, _, hA⟩ := hLS
    cases hvv
    obtain ⟨b, o, rfl, hb, r1⟩ := hA (by omega)
    have g1 := range_part r1 (kAt_get (show 0 < L.length by omega))
    rw [eKy_n, Nat.zero_mul, Nat.add_zero] at g1
    have c0 := ky_cell0 g1
    have HLast := Lib.hid (fun (w3 : World) (hb3 : Below w.heap.size w w3) => last_any _ L w3 (by omega) (by omega) ((h.keep fun b hb => hb3.block b hb).mono hb3.size))
    have hMx : bkP L (pre ++ [(⟨x, hx⟩ : { x // x ∈ bwL L })]) = bkP L pre ++ [bkM L x] := by unfold bkP; rw [List.map_append]; rfl
    have hpl' : (bkP L pre).length ≤ 1000000000 := by unfold bkP; rw [List.length_map]; rw [bwL_len] at hpl; omega
    have hq : bkM L x = ((kAt L 0).1 + (kAt L (L.length - 1)).1 - x.2.1, x.2.2.1, x.2.2.2) := rfl
    have HM := Lib.hid hMx
    clear hMx g1 r1 hA hix hxk
    dsimp only at bX ⊢
    generalize kAt L 0 = a0 at *
    generalize kAt L (L.length - 1) = al at *
    obtain ⟨Mp, hMp⟩ : ∃ Mp, bkP L pre = Mp := ⟨_, rfl⟩
    rw [hMp] at hown hpl' HM
    have HP := Lib.hid hMp
    clear hMp
    obtain ⟨m, t, y, z⟩ := x
    obtain ⟨t0, y0, z0⟩ := a0
    obtain ⟨tl, yl, zl⟩ := al
    dsimp only at km k0 kl hq c0 bX ⊢
    have HQ := Lib.hid hq
    clear hq
    unfold KC at bX HLast
    have hcT := hT.cell
    have bx0 : W.cell? ⟨Bx, 0, none⟩ = some (.int .i16 t) := Row.cell bX 0
    have cT' := fun dd os => cell_regrown hcT dd os
    have c0' := fun dd os => cell_regrown c0 dd os
    have cx' := fun dd os => cell_regrown bx0 dd os
    have q1 : IntKind.i16.wrap (t0 + tl) = t0 + tl := IntWalk.i16_in _ (by omega)
    have q2 : IntKind.i16.wrap (t0 + tl - t) = t0 + tl - t := IntWalk.i16_in _ (by omega)
    have f0 := fun w => ky_field0 tl yl zl w
    have hsz2 := hB1.size
    have hpos : 0 < L.length := by omega
    refine wpIn_block ?_
    refine wpIn_seq_k fun K hK => ?_
    refine round_tail 12 (by kernel_rfl) ?_
    simp only [List.take_succ_cons, List.take_zero, List.drop_succ_cons, List.drop_zero]
    repeat (quiet_step (exact Calls.regrown_of (HLast.out _ (grown_below hB1 (below_regrown _ _ _) hB1.size))))
    refine wpQuiet_nil ?_
    intro w3 hb3
    have hT3 := boxed_below hT hb3 hT.lt
    have hv3 := boxed_below hv hb3 hv.lt
    have hS3 := boxed_below hS hb3 hS.lt
    have bX3 := bX.below hb3 bX.lt
    have hown3 := hown.below hb3
    have hB3 := grown_below hB1 hb3 hB1.size
    have hK3 := keepsO_below hb3
    have hBW3 := hb3.mono hsz2
    clear hb3 bx0 cT' c0' cx' hcT c0 q1 f0 hB1 hv hT hown
    have cX3 : w3.cell? ⟨Bx, 0, none⟩ = some (.int .i16 t) := Row.cell bX3 0
    have fX3 := Row.free bX3 0
    go_wp2
    have hg4 := grownBy_setCell' w3 Bx (.int .i16 (t0 + tl - t))
    have hT4 := hT3.other (B' := Bx) (by omega) (.int .i16 (t0 + tl - t))
    have hv4 := hv3.other (B' := Bx) (by omega) (.int .i16 (t0 + tl - t))
    have hS4 := hS3.other (B' := Bx) (by omega) (.int .i16 (t0 + tl - t))
    have bX4 : Row (w3.setCell ⟨Bx, 0, none⟩ (.int .i16 (t0 + tl - t))) Bx 60 (KC (t0 + tl - t, y, z)) := Row.set bX3 0 (.int .i16 (t0 + tl - t))
    have hown4 := hown3.kept hg4 (.inr hne)
    have hB4 := hB3.setCell (p := ⟨Bx, 0, none⟩) (by simp; omega) (.int .i16 (t0 + tl - t))
    have hK4 := hK3.trans (KeepsOthers.setCell w3 ⟨Bx, 0, none⟩ (.int .i16 (t0 + tl - t)))
    have hBW : Below w.heap.size W (w3.setCell ⟨Bx, 0, none⟩ (.int .i16 (t0 + tl - t))) := hBW3.setCell (p := ⟨Bx, 0, none⟩) (by simp; omega) _
    clear hT3 hv3 hS3 bX3 hown3 hB3 hK3 hBW3 cX3 fX3 hg4
    generalize World.setCell _ _ _ = w4 at *
    have hc4 := hv4.cell
    have hz4 := hB4.size
    refine round_list ?_
    go_wp2_with (first | (refine wpList_load_row rfl 60 _ rfl _ rfl _ _ _ _ bX4 Tryd.underlying60 rfl (by kernel_rfl) ?_) | (refine wpList_build1 (v := .agg (KC (t0 + tl - t, y, z))) (cs := KC (t0 + tl - t, y, z)) rfl 25 60 _ rfl rfl (fun w => run_build_kys w (t0 + tl - t, y, z)) ?_) | (at_builtin; refine wpList_append_one rfl _ _ 25 rfl w.heap.size 60 Tryd.underlying25 infoKyL rfl (by decide) (by omega) (hown4.alloc (.cells (KC (t0 + tl - t, y, z)) 60)) rfl (t0 + tl - t, y, z) rfl (range_new _ _ (KC (t0 + tl - t, y, z))) hpl' (by simp; omega) ?_; intro v' w5 hown' hgrow; obtain ⟨g', cap', rfl⟩ := ownsRow_succ (k := Mp.length) (xs := eKy.cells (Mp ++ [(t0 + tl - t, y, z)])) (by have h' := hown'; unfold OwnL at h'; rwa [List.length_append] at h'); obtain ⟨hv1, hv2, hr2, hk2, hb2⟩ := hv4.appended (by decide) hown4 hz4 (by omega) hown' hgrow; have hc1 := hv1.cell; have hf1 := hv1.frozen; have hT5 := ((hT4.alloc (.cells (KC (t0 + tl - t, y, z)) 60)).kept hgrow (hT4.not_row (by decide) hown4)).other (B' := w.heap.size + 1) (by omega) (.slice (some ⟨g', 0, none⟩) (Mp.length + 1) cap'); have hS5 := ((hS4.alloc (.cells (KC (t0 + tl - t, y, z)) 60)).kept hgrow (hS4.not_row (by decide) hown4)).other (B' := w.heap.size + 1) (by omega) (.slice (some ⟨g', 0, none⟩) (Mp.length + 1) cap')))
    exact ⟨(hK4.trans hk2).from _, KeepB.boxed (hBW.trans hb2) hS hS5, ⟨⟨⟨hT5, _, hv2, by rw [HM.out, HQ.out]; first | exact hr2 | exact ⟨hr2, trivial⟩⟩, hS5⟩, hB4.trans hb2⟩⟩
  case done =>
    rintro D ys W hD hys ⟨⟨⟨hT, v, hv, hown, _⟩, hS⟩, hB1⟩ hK
    have hM : bkP L ys = bkL L := by
      have h' : (ys.map (·.1)).map (bkM L) = bkL L := by rw [hys]; exact bkM_all L
      rw [List.map_map] at h'; exact h'
    rw [hM] at hown
    have hc := hv.cell
    gi_wp2
    refine ⟨by simp, .inl ⟨_, _, rfl, run_takeDeferred hK, ?_⟩⟩
    exact ⟨_, results_tmp rfl _ _ _, v, rfl, ownsRow_putObj hown _ hK rfl, hB1.trans (belowK_b (w := w) (Nat.le_refl _) W D _ _ (by omega) hK rfl rfl)⟩
  case stop =>
    rintro D c pre W _ _ h _
    exact h.elim
end Go.Proofs.YtennmnkjdchbhabDoor
