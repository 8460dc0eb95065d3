/- SPEEDS, the program: speeds, SpeedsOf. -/
import Derived.Test.YtoccklhfiojemaaDoorSpeeds
namespace Go.Proofs.YtoccklhfiojemaaDoor
set_option maxRecDepth 100000
open Go.RowKit
set_option linter.unusedVariables false
set_option linter.unusedSimpArgs false
set_option maxHeartbeats 2000000 in
theorem implSpeeds_any (v : Value) (L : List (Int × Int × Int)) (ea : Int) (w : World) (ho : okT L = true) (he : 0 ≤ ea ∧ ea ≤ 3) (h : SlAt eKy w w.heap.size v L) :
    Calls Tryd.prog 44 #[v, .int .i64 ea] w (GivesV (eI .i64) 2 (spL L ea) w) := by
  have hlen := (okT_iff.1 ho).1
  have hn := spN_le ho
  have k0 := (okT_key ho (i := 0) (by omega)).1
  have k1 := (okT_key ho (i := L.length - 1) (by omega)).1
  have hb := ((Below.refl w.heap.size w).alloc (Nat.le_refl _) (.cells #[v] 27)).alloc (by simp) (.cells #[.int .i64 ea] 2)
  have r2 := (Row.new w 27 #[v]).alloc (.cells #[.int .i64 ea] 2)
  have r3 := Row.new (w.alloc (.cells #[v] 27)) 2 #[.int .i64 ea]
  rw [World.size_alloc] at r3
  have CF := Lib.hid (fun (w' : World) (hb : Below w.heap.size w w') (i : Nat) (hi : (kAt L 0).1 + (i : Int) + 1 ≤ 200) (x2 : w'.cell? ⟨w.heap.size, 0, none⟩ = some v) (x3 : w'.cell? ⟨w.heap.size + 1, 0, none⟩ = some (.int .i64 ea)) => speedsFn_any v L ea i w.heap.size (w.heap.size + 1) w' ho he hi (h.later hb) x2 x3)
  have CL := Lib.hid (fun (w' : World) (hb : Below w.heap.size w w') => last_any v L w' (by omega) (by omega) (h.later hb))
  have hu : spL L ea = tab (fun i => spd L ea ((kAt L 0).1 + (i : Int))) (spN L) := rfl
  rw [hu]
  obtain ⟨A, c, rfl, h1, h2, hA⟩ := h
  obtain ⟨b1, o1, rfl, hb1, r1⟩ := hA (by omega)
  have g0 := range_part r1 (kAt_get (i := 0) (by omega))
  rw [eKy_n, Nat.zero_mul, Nat.add_zero] at g0
  have c0 := ky_cell0 g0
  have hl0 : 0 < L.length := by omega
  have hn1 := hn.1
  have hn2 := hn.2.1
  have hn3 := hn.2.2
  clear hA h1 h2 r1 g0 hu hn
  generalize hN : spN L = N at *
  generalize kAt L (L.length - 1) = kk at *
  obtain ⟨z, zx, zy⟩ := kk
  unfold KC at CL
  dsimp only at CL k1 hn1 hn2
  have hf := fun w => ky_field0 z zx zy w
  generalize (kAt L 0).1 = s at *
  obtain ⟨F, hF⟩ : ∃ F : Nat → Int, F = fun i : Nat => spd L ea (s + (i : Int)) := ⟨_, rfl⟩
  rw [← hF]
  have HF := Lib.hid (fun i => congrFun hF i)
  clear hF
  have kz : IntKind.i16.wrap (z - s) = z - s := IntWalk.i16_in _ (by omega)
  have ky : IntKind.i64.wrap (z - s) = z - s := IntWalk.i64_in _ (by omega)
  go_enter Tryd.func44, Tryd.ntmps44
  go_wp2
  generalize ((w.alloc (.cells #[.slice (some ⟨b1, o1, none⟩) L.length c] 27)).alloc (.cells #[.int .i64 ea] 2)) = w3 at *
  have x2 : w3.cell? ⟨w.heap.size, 0, none⟩ = some (.slice (some ⟨b1, o1, none⟩) L.length c) := r2.cell 0
  have x3 : w3.cell? ⟨w.heap.size + 1, 0, none⟩ = some (.int .i64 ea) := r3.cell 0
  have d0 := (World.cell?_of_block (w := w) (a := ⟨b1, o1, none⟩) (hb.block _ hb1)).trans c0
  have y2 := cell_q x2
  have y0 := cell_q d0
  refine wp_region_calm (by kernel_rfl) (by kernel_rfl) ?_
  repeat (quiet_step (with_reducible exact Calls.regrown_of (CL.out _ (grown_below hb (below_regrown w3 _ _) hb.size))))
  refine wpQuiet_nil ?_
  intro w4 hb4
  replace r2 := r2.below hb4 r2.lt
  replace r3 := r3.below hb4 r3.lt
  replace hb := grown_below hb hb4 hb.size
  clear x2 x3 d0 y2 y0 hb4 c0 CL
  have cB := listByC_i64 (z - s) 72 (.pointer (some ⟨w.heap.size, 0, none⟩)) (.pointer (some ⟨w.heap.size + 1, 0, none⟩)) F w4 (by omega) (by omega) (fun x w => by kernel_rfl) (fun i hi w1 hb1 => by
    have := CF.out w1 (grown_below hb hb1 hb.size) i (by omega) ((r2.below hb1 r2.lt).cell 0) ((r3.below hb1 r3.lt).cell 0)
    rw [HF.out i]
    exact this)
  rw [show (z - s).toNat = N by omega] at cB
  go_wp2_with (go_at_call 71; refine cB.mono ?_; rintro r w5 ⟨u, rfl, hown, hb5⟩)
  go_ret
  exact ⟨_, rfl, hown.mono hb.size, grown_below hb hb5 hb.size⟩
set_option maxHeartbeats 2000000 in
theorem implSpeedsOf_any (v : Value) (L : List (Int × Int × Int)) (ea : Int) (w : World) (a : Nat → Addr) (hL : ltK L) (h : SlAt eKy w w.heap.size v L) (hs : Sent w a) :
    Calls Tryd.prog 16 #[v, .int .i64 ea] w (GivesL (eI .i64) 2 (ifL (wyC L ea true) (spL L ea)) (wyC L ea true) w) := by
  have cW := checkWay_any v L ea a w hL h hs
  have cC := fun c hc w' (hb : Below w.heap.size w w') => codeOf_any c a w' (hs.below hb) hc
  have cP := fun w' (hb : Below w.heap.size w w') ho he => implSpeeds_any v L ea w' ho he (h.later hb)
  obtain ⟨A, c, rfl⟩ := h.form
  clear h hs
  rcases wyC_cases L ea true with ⟨h1, hc⟩ | ⟨h1, h2, hc⟩ | ⟨h1, h2, h3, hc⟩ | ⟨h1, h2, h3, hc⟩
  · have CC := Lib.hid (cC 1 (by omega))
    rw [hc, errV1] at cW
    rw [errV1] at CC
    rw [hc, ifL1 _ (by decide)]
    clear h1 hc cC cP
    go_enter Tryd.func16, Tryd.ntmps16
    go_wp2_with (first | (go_at_call 39; refine cW.mono ?_; rintro r w' ⟨rfl, hb⟩; clear cW) | (go_at_call 40; refine (CC.out _ hb).mono ?_; rintro r w2 ⟨rfl, rfl⟩))
    go_ret2
    exact ⟨_, rfl, OwnL.nil_ _ _ _, hb⟩
  · have CC := Lib.hid (cC 2 (by omega))
    rw [hc, errV2] at cW
    rw [errV2] at CC
    rw [hc, ifL1 _ (by decide)]
    clear h1 h2 hc cC cP
    go_enter Tryd.func16, Tryd.ntmps16
    go_wp2_with (first | (go_at_call 39; refine cW.mono ?_; rintro r w' ⟨rfl, hb⟩; clear cW) | (go_at_call 40; refine (CC.out _ hb).mono ?_; rintro r w2 ⟨rfl, rfl⟩))
    go_ret2
    exact ⟨_, rfl, OwnL.nil_ _ _ _, hb⟩
  · cases h3
  · have HP := Lib.hid (fun w' hb => cP w' hb h1 (inB_iff.1 h2))
    rw [hc, errV0] at cW
    rw [hc, ifL0]
    clear h1 h2 h3 hc cC cP
    generalize spL L ea = M at *
    go_enter Tryd.func16, Tryd.ntmps16
    go_wp2_with (first | (go_at_call 39; refine cW.mono ?_; rintro r w1 ⟨rfl, hb⟩; clear cW) | (go_at_call 44; refine (HP.out _ hb).mono ?_; rintro r w2 ⟨u, rfl, hown, hb2⟩))
    go_ret2
    exact ⟨_, rfl, hown.mono hb.size, grown_below hb hb2 hb.size⟩
end Go.Proofs.YtoccklhfiojemaaDoor
