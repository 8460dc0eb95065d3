/- spec: SameTrack, TicksOf; impl: last, TicksOf. -/
import Derived.Test.YtoccklhfiojemaaITrack
import Derived.Test.YtoccklhfiojemaaPlaceM
import Derived.Test.YtoccklhfiojemaaQuiet2
namespace Go.Proofs.Ytoccklhfiojemaa
set_option maxRecDepth 100000
open Go.RowKit
set_option linter.unusedVariables false
set_option linter.unusedSimpArgs false
def tkA (L : List (Int × Int × Int)) : Int := ifI (okTC L) (kAt L 0).1
def tkB (L : List (Int × Int × Int)) : Int := ifI (okTC L) (kAt L (L.length - 1)).1
set_option maxHeartbeats 1000000 in
theorem last_any (v : Value) (L : List (Int × Int × Int)) (w : World) (h0 : 0 < L.length) (hl : L.length ≤ 1000000) (h : SlAt eKy w w.heap.size v L) :
    Calls Try.prog 37 #[v] w fun r w' => r = .returned (.agg (KC (kAt L (L.length - 1)))) ∧ Below w.heap.size w w' := by
  obtain ⟨A, c, rfl, h1, h2, hA⟩ := h
  obtain ⟨b1, o1, rfl, hb1, r1⟩ := hA h0
  have g1 := range_part r1 (kAt_get (i := L.length - 1) (by omega))
  rw [eKy_n] at g1
  obtain ⟨m, hm⟩ : ∃ m, L.length = m + 1 := ⟨L.length - 1, by omega⟩
  have hm1 : m ≤ 1000000 := by omega
  rw [hm, Nat.add_sub_cancel] at g1 ⊢
  clear hA r1 h1 h2 h0 hl hm
  generalize kAt L m = k at *
  obtain ⟨t, x, y⟩ := k
  have hb := (Below.refl w.heap.size w).alloc (Nat.le_refl _) (.cells (KC (t, x, y)) 43)
  go_enter Try.func37, Try.ntmps37
  go_wp2_with (refine wpList_load_el (E := eKy) rfl 43 _ rfl _ _ rfl (t, x, y) #[.int .i16 t, .int .i8 x, .int .i8 y] rfl (range_below g1 ((Below.refl w.heap.size w).alloc (Nat.le_refl _) (.cells #[.int .i16 0, .int .i8 0, .int .i8 0] 43)) hb1) Try.underlying43 rfl (by kernel_rfl) ?_)
  refine bodyPost_ret_row (p := 2) (ty := 43) (cs := KC (t, x, y)) rfl rfl (Row.new w 43 (KC (t, x, y))) Try.underlying43 rfl (by kernel_rfl) rfl ⟨rfl, hb⟩
set_option maxHeartbeats 1000000 in
theorem specSameTrack_any (u v : Value) (L M : List (Int × Int × Int)) (w : World) (hu : SlAt eKy w w.heap.size u L) (hv : SlAt eKy w w.heap.size v M) :
    Calls Try.prog 17 #[u, v] w fun e w' => e = .returned (.bool (decide (L = M))) ∧ Below w.heap.size w w' := by
  obtain ⟨A, c, rfl, h1, h2, hA⟩ := hu
  obtain ⟨B, d, rfl, h3, h4, hB⟩ := hv
  unfold maxLen at h2 h4
  by_cases hl : L.length = M.length
  · have e1 : ((L.length : Int) != (M.length : Int)) = false := by simp [hl]
    have HL := Lib.hid hl
    clear hl
    go_enter Try.func17, Try.ntmps17
    go_wp2
    go_loopw [5] (fun i wr => ∃ k : Nat, k ≤ L.length ∧ i = .int .i64 k ∧ (∀ j, j < k → kAt L j = kAt M j) ∧ Below w.heap.size w wr) (fun i _ => L.length - (intOf i).toNat)
    case atStart => exact ⟨0, by omega, rfl, by omega, Below.refl _ _⟩
    case round =>
      obtain ⟨k, hk, rfl, he, hb⟩ := hrel
      have HE := Lib.hid he
      clear he
      by_cases hlt : k < L.length
      · have hltM : k < M.length := by rw [← HL.out]; exact hlt
        obtain ⟨b1, o1, rfl, hb1, r1⟩ := hA (by omega)
        obtain ⟨b2, o2, rfl, hb2, r2⟩ := hB (by omega)
        have g1 := range_below (range_part r1 (kAt_get hlt)) hb hb1
        have g2 := range_below (range_part r2 (kAt_get hltM)) hb hb2
        have l1 : b1 < wr.heap.size := Nat.lt_of_lt_of_le hb1 hb.size
        have l2 : b2 < wr.heap.size := Nat.lt_of_lt_of_le hb2 hb.size
        rw [eKy_n] at g1 g2
        clear hA hB r1 r2
        have hq := fun w => run_neq_ky w (kAt L k) (kAt M k)
        generalize hE : decide (kAt L k = kAt M k) = q at *
        go_wp2_with fail
        refine wp_region_calm (by kernel_rfl) (by kernel_rfl) ?_
        repeat (first | (first | refine wpQuiet_load_el (E := eKy) rfl 43 _ rfl _ _ rfl (kAt L k) (KC (kAt L k)) rfl g1 l1 Try.underlying43 rfl (by kernel_rfl) ?_ | refine wpQuiet_load_el (E := eKy) rfl 43 _ rfl _ _ rfl (kAt M k) (KC (kAt M k)) rfl g2 l2 Try.underlying43 rfl (by kernel_rfl) ?_) | quiet_step (fail))
        refine wpQuiet_nil ?_
        intro w3 hb3
        replace hb := grown_below hb hb3 hb.size
        clear g1 g2 hb3
        have HQ := Lib.hid hE
        clear hE
        cases q with
        | true =>
          go_wp2
          go_roundw
          case rel =>
            go_light
            refine ⟨k + 1, by omega, by go_num, ?_, hb⟩
            intro j hj
            rcases Nat.lt_succ_iff_lt_or_eq.1 hj with h | rfl
            · exact HE.out j h
            · exact of_decide_eq_true HQ.out
          case measure => simp [intOf]; omega
        | false =>
          go_wp2
          go_ret
          exact ⟨ret_bool (by rw [decide_eq_false (fun e => of_decide_eq_false HQ.out (by rw [e]))]), hb⟩
      · go_wp2
        go_ret
        have hkl : k = L.length := by omega
        subst hkl
        exact ⟨ret_bool (by rw [decide_eq_true (eq_of_getD (z := zeroK) HL.out HE.out)]), hb⟩
  · have e1 : ((L.length : Int) != (M.length : Int)) = true := by simp; omega
    have HL := Lib.hid hl
    clear hl
    go_enter Try.func17, Try.ntmps17
    go_wp2
    go_ret
    exact ⟨ret_bool (by rw [decide_eq_false (fun e => HL.out (by rw [e]))]), Below.refl _ _⟩
set_option maxHeartbeats 1000000 in
theorem specTicksOf_any (v : Value) (L : List (Int × Int × Int)) (w : World) (hL : ltK L) (h : SlAt eKy w w.heap.size v L) :
    Calls Try.prog 19 #[v] w fun r w' => r = .returned (.tuple #[.int .i64 (tkA L), .int .i64 (tkB L), .int .i64 (okTC L)]) ∧ Below w.heap.size w w' := by
  have cO := specOkT_any v L w hL h
  unfold tkA tkB
  rcases okTC_cases L with ⟨ho, hc⟩ | ⟨ho, hc⟩
  · rw [ho] at cO
    rw [hc, ifI1 _ (by decide), ifI1 _ (by decide)]
    obtain ⟨A, c, rfl⟩ := h.form
    clear ho hc h
    go_enter Try.func19, Try.ntmps19
    go_wp2_with (go_at_call 30; refine cO.mono ?_; rintro r w' ⟨rfl, hb⟩; clear cO)
    go_ret3
    exact ⟨rfl, hb⟩
  · have hlen := (okT_iff.1 ho).1
    obtain ⟨m, hm⟩ : ∃ m, L.length = m + 1 := ⟨L.length - 1, by omega⟩
    have ka := (okT_key ho (i := 0) (by omega)).1
    have kb := (okT_key ho (i := m) (by omega)).1
    rw [ho] at cO
    rw [hc, ifI0, ifI0]
    obtain ⟨A, c, rfl, h1, h2, hA⟩ := h
    obtain ⟨b1, o1, rfl, hb1, r1⟩ := hA (by omega)
    have g0 := range_part r1 (kAt_get (i := 0) (by omega))
    have g1 := range_part r1 (kAt_get (i := m) (by omega))
    have hm1 : m ≤ 20 := by omega
    rw [hm] at cO
    rw [hm, Nat.add_sub_cancel]
    rw [eKy_n] at g0 g1
    rw [Nat.zero_mul, Nat.add_zero] at g0
    have c0 := ky_cell0 g0
    have c1 := ky_cell0 g1
    clear hA r1 h1 h2 ho hc g0 g1 hlen hm
    generalize (kAt L m).1 = t at *
    generalize (kAt L 0).1 = s at *
    have k0 : IntKind.i64.wrap t = t := IntWalk.i64_in _ (by omega)
    have k1 : IntKind.i64.wrap s = s := IntWalk.i64_in _ (by omega)
    go_enter Try.func19, Try.ntmps19
    go_wp2_with (go_at_call 30; refine cO.mono ?_; rintro r w2 ⟨rfl, hb⟩; have d0 := (World.cell?_of_block (w := w) (a := ⟨b1, o1, none⟩) (hb.block _ hb1)).trans c0; have d1 := (World.cell?_of_block (w := w) (a := ⟨b1, o1 + m * 3, none⟩) (hb.block _ hb1)).trans c1; clear cO c0 c1)
    go_region
    go_wp2
    go_ret3
    exact ⟨rfl, hb.drew⟩
set_option maxHeartbeats 1000000 in
theorem implTicksOf_any (v : Value) (L : List (Int × Int × Int)) (w : World) (hL : ltK L) (h : SlAt eKy w w.heap.size v L) :
    Calls Try.prog 20 #[v] w fun r w' => r = .returned (.tuple #[.int .i64 (tkA L), .int .i64 (tkB L), .int .i64 (okTC L)]) ∧ Below w.heap.size w w' := by
  have cO := implValidTrack_any v L w hL h
  have cL := fun w' (hb : Below w.heap.size w w') h0 h1 => last_any v L w' h0 h1 (h.later hb)
  unfold tkA tkB
  rcases okTC_cases L with ⟨ho, hc⟩ | ⟨ho, hc⟩
  · rw [ho] at cO
    rw [hc, ifI1 _ (by decide), ifI1 _ (by decide)]
    obtain ⟨A, c, rfl⟩ := h.form
    clear ho hc h cL
    go_enter Try.func20, Try.ntmps20
    go_wp2_with (go_at_call 15; refine cO.mono ?_; rintro r w' ⟨rfl, hb⟩; clear cO)
    go_ret3
    exact ⟨rfl, hb⟩
  · have hlen := (okT_iff.1 ho).1
    have hn1 := hlen.1
    have hn0 : 0 < L.length := by omega
    have hn2 := hlen.2
    have ka := (okT_key ho (i := 0) (by omega)).1
    have kb := (okT_key ho (i := L.length - 1) (by omega)).1
    rw [ho] at cO
    rw [hc, ifI0, ifI0]
    obtain ⟨A, c, rfl, h1, h2, hA⟩ := h
    obtain ⟨b1, o1, rfl, hb1, r1⟩ := hA (by omega)
    have g0 := range_part r1 (kAt_get (i := 0) (by omega))
    rw [eKy_n, Nat.zero_mul, Nat.add_zero] at g0
    have c0 := ky_cell0 g0
    have CL := Lib.hid (fun w' hb => cL w' hb (by omega) (by omega))
    clear cL hA r1 h1 h2 ho hc g0
    generalize kAt L (L.length - 1) = kk at *
    obtain ⟨t, x, y⟩ := kk
    unfold KC at CL
    dsimp only at kb CL
    have hf := fun w => ky_field0 t x y w
    generalize (kAt L 0).1 = s at *
    have k0 : IntKind.i64.wrap t = t := IntWalk.i64_in _ (by omega)
    have k1 : IntKind.i64.wrap s = s := IntWalk.i64_in _ (by omega)
    go_enter Try.func20, Try.ntmps20
    go_wp2_with (go_at_call 15; refine cO.mono ?_; rintro r w2 ⟨rfl, hb⟩; have d0 := (World.cell?_of_block (w := w) (a := ⟨b1, o1, none⟩) (hb.block _ hb1)).trans c0; clear cO c0)
    have hl2 : b1 < w2.heap.size := Nat.lt_of_lt_of_le hb1 hb.size
    have d0q : ∀ p : Regrown, (Go.Sort.grow (redrawn w2 p.d) p.os).cell? ⟨b1, o1, none⟩ = some (.int .i16 s) := fun p => (World.cell?_of_block (w := w2) (a := ⟨b1, o1, none⟩) ((below_regrown w2 p.d p.os).block _ hl2)).trans d0
    refine wp_region_calm (by kernel_rfl) (by kernel_rfl) ?_
    repeat (quiet_step (first | exact Calls.regrown_of (CL.out _ (grown_below hb (below_regrown w2 _ _) hb.size))))
    refine wpQuiet_nil ?_
    intro w3 hb3
    go_wp2
    go_ret3
    exact ⟨rfl, grown_below hb hb3 hb.size⟩
end Go.Proofs.Ytoccklhfiojemaa
