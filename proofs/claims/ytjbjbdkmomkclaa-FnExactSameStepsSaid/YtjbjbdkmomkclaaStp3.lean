/- STEPS: the laws' own helpers: eqStep, eqStepS, intactStep, intactStepS. -/
import Derived.Test.YtjbjbdkmomkclaaStp2
import Derived.Test.YtjbjbdkmomkclaaLI64
namespace Go.Proofs.Ytjbjbdkmomkclaa
set_option maxRecDepth 100000
open Go.RowKit
set_option linter.unusedVariables false
set_option linter.unusedSimpArgs false
def eqSB (a b : Stp) : Bool := decide (a = b)
set_option maxHeartbeats 2000000 in
theorem eqStep_any (s t : Hd) (u v : Value) (L M : List (Int × Int)) (w : World) (hu : SlAt eCg w w.heap.size u L) (hv : SlAt eCg w w.heap.size v M) :
    Calls Try.prog 84 #[.agg (StC s u), .agg (StC t v)] w fun e w' => e = .returned (.bool (eqSB (s, L) (t, M))) ∧ Below w.heap.size w w' := by
  obtain ⟨a0, a1, a2, a3⟩ := s
  obtain ⟨b0, b1, b2, b3⟩ := t
  have cE := fun w' (hb : Below w.heap.size w w') => eqChangeS_any _ _ L M w' (hu.later hb) (hv.later hb)
  obtain ⟨A, c, rfl⟩ := hu.form
  obtain ⟨B, d, rfl⟩ := hv.form
  have hb := ((Below.refl w.heap.size w).alloc (Nat.le_refl _) (.cells (StC (a0, a1, a2, a3) (.slice A L.length c)) 71)).alloc (by simp) (.cells (StC (b0, b1, b2, b3) (.slice B M.length d)) 71)
  clear hu hv
  unfold StC
  unfold StC at hb
  by_cases h0 : a0 = b0
  · by_cases h1 : a1 = b1
    · by_cases h2 : a2 = b2
      · by_cases h3 : a3 = b3
        · by_cases h4 : L = M
          · have e0 : (a0 != b0) = false := by simp [h0]
            have e1 : (a1 != b1) = false := by simp [h1]
            have e2 : (a2 != b2) = false := by simp [h2]
            have e3 : (a3 != b3) = false := by simp [h3]
            have hv : eqSB ((a0, a1, a2, a3), L) ((b0, b1, b2, b3), M) = true := by simp [eqSB, h0,h1,h2,h3,h4]
            rw [decide_eq_true h4] at cE
            clear h0 h1 h2 h3 h4
            rw [hv]
            clear hv
            go_enter Try.func84, Try.ntmps84
            go_wp2_with (go_at_call 97; refine (cE _ hb).mono ?_; rintro e w' ⟨rfl, hb2⟩; replace hb := grown_below hb hb2 hb.size)
            go_ret
            exact ⟨rfl, hb⟩
          · have e0 : (a0 != b0) = false := by simp [h0]
            have e1 : (a1 != b1) = false := by simp [h1]
            have e2 : (a2 != b2) = false := by simp [h2]
            have e3 : (a3 != b3) = false := by simp [h3]
            have hv : eqSB ((a0, a1, a2, a3), L) ((b0, b1, b2, b3), M) = false := by simp [eqSB, h4]
            rw [decide_eq_false h4] at cE
            clear h0 h1 h2 h3 h4
            rw [hv]
            clear hv
            go_enter Try.func84, Try.ntmps84
            go_wp2_with (go_at_call 97; refine (cE _ hb).mono ?_; rintro e w' ⟨rfl, hb2⟩; replace hb := grown_below hb hb2 hb.size)
            go_ret
            exact ⟨rfl, hb⟩
        · have e0 : (a0 != b0) = false := by simp [h0]
          have e1 : (a1 != b1) = false := by simp [h1]
          have e2 : (a2 != b2) = false := by simp [h2]
          have e3 : (a3 != b3) = true := by simp [h3]
          have hv : eqSB ((a0, a1, a2, a3), L) ((b0, b1, b2, b3), M) = false := by simp [eqSB, h3]
          clear h0 h1 h2 h3 cE
          rw [hv]
          clear hv
          go_enter Try.func84, Try.ntmps84
          go_wp2
          go_ret
          exact ⟨rfl, hb⟩
      · have e0 : (a0 != b0) = false := by simp [h0]
        have e1 : (a1 != b1) = false := by simp [h1]
        have e2 : (a2 != b2) = true := by simp [h2]
        have hv : eqSB ((a0, a1, a2, a3), L) ((b0, b1, b2, b3), M) = false := by simp [eqSB, h2]
        clear h0 h1 h2 cE
        rw [hv]
        clear hv
        go_enter Try.func84, Try.ntmps84
        go_wp2
        go_ret
        exact ⟨rfl, hb⟩
    · have e0 : (a0 != b0) = false := by simp [h0]
      have e1 : (a1 != b1) = true := by simp [h1]
      have hv : eqSB ((a0, a1, a2, a3), L) ((b0, b1, b2, b3), M) = false := by simp [eqSB, h1]
      clear h0 h1 cE
      rw [hv]
      clear hv
      go_enter Try.func84, Try.ntmps84
      go_wp2
      go_ret
      exact ⟨rfl, hb⟩
  · have e0 : (a0 != b0) = true := by simp [h0]
    have hv : eqSB ((a0, a1, a2, a3), L) ((b0, b1, b2, b3), M) = false := by simp [eqSB, h0]
    clear h0 cE
    rw [hv]
    clear hv
    go_enter Try.func84, Try.ntmps84
    go_wp2
    go_ret
    exact ⟨rfl, hb⟩
theorem eqStep_same (s : Hd) (u v : Value) (L : List (Int × Int)) (w : World) (hu : SlAt eCg w w.heap.size u L) (hv : SlAt eCg w w.heap.size v L) :
    Calls Try.prog 84 #[.agg (StC s u), .agg (StC s v)] w fun e w' => e = .returned (.bool true) ∧ Below w.heap.size w w' := by
  have := eqStep_any s s u v L L w hu hv
  rw [show eqSB (s, L) (s, L) = true from decide_eq_true rfl] at this
  exact this
set_option maxHeartbeats 1000000 in
theorem eqStepS_any (u v : Value) (L M : List Stp) (w : World) (hu : StsAt w w.heap.size u L) (hv : StsAt w w.heap.size v M) :
    Calls Try.prog 48 #[u, v] w fun e w' => e = .returned (.bool (decide (L = M))) ∧ Below w.heap.size w w' := by
  obtain ⟨A, c, rfl, h1, h2, hA⟩ := hu
  obtain ⟨B, d, rfl, h3, h4, hB⟩ := hv
  unfold maxLen at h2 h4
  by_cases hl : L.length = M.length
  · have e1 : ((L.length : Int) != (M.length : Int)) = false := by simp [hl]
    have HL := Lib.hid hl
    clear hl
    go_enter Try.func48, Try.ntmps48
    go_wp2
    go_loopw [5] (fun i wr => ∃ k : Nat, k ≤ L.length ∧ i = .int .i64 k ∧ (∀ j, j < k → tAt L j = tAt M j) ∧ Below w.heap.size w wr) (fun i _ => L.length - (intOf i).toNat)
    case atStart => exact ⟨0, by omega, rfl, by omega, Below.refl _ _⟩
    case round =>
      obtain ⟨k, hk, rfl, he, hb⟩ := hrel
      have HE := Lib.hid he
      clear he
      by_cases hlt : k < L.length
      · have hltM : k < M.length := by rw [← HL.out]; exact hlt
        obtain ⟨b1, o1, rfl, hb1, r1⟩ := hA (by omega)
        obtain ⟨b2, o2, rfl, hb2, r2⟩ := hB (by omega)
        obtain ⟨z1, q1, s1⟩ := r1 k hlt
        obtain ⟨z2, q2, s2⟩ := r2 k hltM
        have g1 := range_below q1 hb hb1
        have g2 := range_below q2 hb hb2
        have t1 := (s1.below hb).mono hb.size
        have t2 := (s2.below hb).mono hb.size
        obtain ⟨A1, c1, rfl⟩ := s1.form
        obtain ⟨A2, c2, rfl⟩ := s2.form
        have l1 : b1 < wr.heap.size := Nat.lt_of_lt_of_le hb1 hb.size
        have l2 : b2 < wr.heap.size := Nat.lt_of_lt_of_le hb2 hb.size
        have cE := fun w' (hb : Below wr.heap.size wr w') => eqStep_any (tAt L k).1 (tAt M k).1 _ _ (tAt L k).2 (tAt M k).2 w' (t1.later hb) (t2.later hb)
        have hE2 : eqSB ((tAt L k).1, (tAt L k).2) ((tAt M k).1, (tAt M k).2) = eqSB (tAt L k) (tAt M k) := rfl
        rw [hE2] at cE
        generalize hq : eqSB (tAt L k) (tAt M k) = q at cE
        have HQ0 := Lib.hid hq
        have CE := Lib.hid cE
        clear hE2 hq
        clear hA hB r1 r2 q1 q2 s1 s2 t1 t2 cE
        go_wp2_with fail
        refine wp_region_calm (by kernel_rfl) (by kernel_rfl) ?_
        repeat (first | (first | refine wpQuiet_load_el (E := eSt) rfl 71 _ rfl _ _ rfl ((tAt L k).1, A1, (tAt L k).2.length, c1) (StC (tAt L k).1 (.slice A1 (tAt L k).2.length c1)) rfl g1 l1 Try.underlying71 rfl (by kernel_rfl) ?_ | refine wpQuiet_load_el (E := eSt) rfl 71 _ rfl _ _ rfl ((tAt M k).1, A2, (tAt M k).2.length, c2) (StC (tAt M k).1 (.slice A2 (tAt M k).2.length c2)) rfl g2 l2 Try.underlying71 rfl (by kernel_rfl) ?_) | quiet_step (exact Calls.regrown_of (CE.out _ (below_regrown _ _ _))))
        refine wpQuiet_nil ?_
        intro w3 hb3
        replace hb := grown_below hb hb3 hb.size
        clear g1 g2 hb3 CE
        cases q with
        | true =>
          have HQ := Lib.hid (show tAt L k = tAt M k from of_decide_eq_true HQ0.out)
          clear HQ0
          go_wp2
          go_roundw
          case rel =>
            go_light
            refine ⟨k + 1, by omega, by go_num, ?_, hb⟩
            intro j hj
            rcases Nat.lt_succ_iff_lt_or_eq.1 hj with h | rfl
            · exact HE.out j h
            · exact HQ.out
          case measure => simp [intOf]; omega
        | false =>
          have HQ := Lib.hid (show L ≠ M from fun e => of_decide_eq_false HQ0.out (by rw [e]))
          clear HQ0
          go_wp2
          go_ret
          exact ⟨ret_bool (by rw [decide_eq_false HQ.out]), hb⟩
      · go_wp2
        go_ret
        have hkl : k = L.length := by omega
        subst hkl
        exact ⟨ret_bool (by rw [decide_eq_true (eq_of_getD (z := zeroStp) HL.out HE.out)]), hb⟩
  · have e1 : ((L.length : Int) != (M.length : Int)) = true := by simp; omega
    have HL := Lib.hid hl
    clear hl
    go_enter Try.func48, Try.ntmps48
    go_wp2
    go_ret
    exact ⟨ret_bool (by rw [decide_eq_false (fun e => HL.out (by rw [e]))]), Below.refl _ _⟩
theorem eqStepS_same (u v : Value) (L : List Stp) (w : World) (hu : StsAt w w.heap.size u L) (hv : StsAt w w.heap.size v L) :
    Calls Try.prog 48 #[u, v] w fun e w' => e = .returned (.bool true) ∧ Below w.heap.size w w' := by
  have := eqStepS_any u v L L w hu hv
  rw [decide_eq_true rfl] at this
  exact this
set_option maxHeartbeats 1000000 in
theorem intactStep_any (g1 g2 : Nat) (h : Hd) (L : List (Int × Int)) (w : World) (hL : L.length ≤ 1000000) (h1 : Held eCg w g1 113 (roomy fillCg L)) (h2 : Held eCg w g2 113 (roomy fillCg L)) :
    Calls Try.prog 47 #[.agg (StC h (.slice (some ⟨g1, 0, none⟩) L.length (L.length + roomN L.length))), .agg (StC h (.slice (some ⟨g2, 0, none⟩) L.length (L.length + roomN L.length)))] w fun e w' => e = .returned (.bool true) ∧ Below w.heap.size w w' := by
  have cT := fun w' (hb : Below w.heap.size w w') => intactChangeS_any g1 g2 L w' hL (h1.below hb h1.lt) (h2.below hb h2.lt)
  generalize hn : L.length + roomN L.length = n2 at *
  have h0 := ((Below.refl w.heap.size w).alloc (Nat.le_refl _) (.cells (StC h (.slice (some ⟨g1, 0, none⟩) L.length n2)) 71)).alloc (by simp) (.cells (StC h (.slice (some ⟨g2, 0, none⟩) L.length n2)) 71)
  obtain ⟨a0, a1, a2, a3⟩ := h
  have e0 : (a0 != a0) = false := by simp
  have e1 : (a1 != a1) = false := by simp
  have e2 : (a2 != a2) = false := by simp
  have e3 : (a3 != a3) = false := by simp
  clear h1 h2 hn
  unfold StC
  unfold StC at h0
  go_enter Try.func47, Try.ntmps47
  go_wp2_with (go_at_call 83; refine (cT _ h0).mono ?_; rintro e w' ⟨rfl, hb2⟩; replace h0 := grown_below h0 hb2 h0.size)
  go_ret
  exact ⟨rfl, h0⟩
/-- The part behind a length, up to the capacity. -/
def behV (g n r : Nat) : Value := .slice (if r = 0 then some ⟨g, 0, none⟩ else some ⟨g, n * 5, none⟩) r r
theorem StsMade.behindV {w : World} {g : Nat} {b : Bool} {L : List Stp} {R : List Raw} (h : StsMade w g b L R) (hn : L.length ≤ 1000000) : StsAt w w.heap.size (behV g L.length (roomN L.length)) (List.replicate (roomN L.length) fillStp) := by
  unfold behV
  by_cases hr : roomN L.length = 0
  · rw [if_pos hr, hr]; exact StsAt.nil_ (Nat.zero_le _) _
  · rw [if_neg hr]; exact h.behind hn
theorem run_slice_beh (g n r : Nat) (w : World) :
    (Instr.slice 25 (.slice (some ⟨g, 0, none⟩) n (n + r)) (some (.int .i64 (n : Int))) (some (.int .i64 ((n : Int) + (r : Int)))) none).run Try.prog w = .ok (behV g n r) w := by
  obtain ⟨i0, hi, hz0, hz1, hz2⟩ := info_parts infoSt
  have h1 : (0 : Int) ≤ (n : Int) ∧ (n : Int) ≤ ((n : Int) + (r : Int)) := by omega
  have h2 : (0 : Int) ≤ ((n : Int) + (r : Int)) ∧ ((n : Int) + (r : Int)) ≤ ((n + r : Nat) : Int) := by omega
  have h3 : ((n : Int) + (r : Int)).toNat = n + r := by omega
  have hc : Try.prog.cellsOf 71 = 5 := by kernel_rfl
  simp only [Instr.slice, run_underlying Try.underlying25, Sem.run_bind, Result.andThen_ok, Instr.sliceBounds, Instr.sliceBound, asIntOf, Sem.run_pure, if_pos h1, if_pos h2, Int.toNat_natCast, h3, run_sizeOf w hi, hz1, eSt_n]
  unfold behV
  by_cases hr : r = 0
  · subst hr; simp
  · by_cases hn : n = 0
    · subst hn; simp [Addr.add, hr, hc]
    · have h4 : (n : Int) ≤ (n : Int) + (r : Int) := h1.2
      simp [Addr.add, hr, hc, hn, h4]
      omega
set_option maxHeartbeats 1000000 in
theorem intactStepS_any (g1 g2 : Nat) (R1 R2 : List Raw) (L : List Stp) (w : World) (hL : L.length ≤ 1000000) (hS : ∀ i, i < L.length → (tAt L i).2.length ≤ 1000000) (h1 : StsMade w g1 false L R1) (h2 : StsMade w g2 false L R2) :
    Calls Try.prog 14 #[.slice (some ⟨g1, 0, none⟩) L.length (L.length + roomN L.length), .slice (some ⟨g2, 0, none⟩) L.length (L.length + roomN L.length)] w fun e w' => e = .returned (.bool true) ∧ Below w.heap.size w w' := by
  obtain ⟨i0, hi, hz0, hz1, hz2⟩ := info_parts infoSt
  have hr := roomN_le L.length
  have b1 := h1.behindV hL
  have b2 := h2.behindV hL
  have cE := fun w' (hb : Below w.heap.size w w') => eqStepS_same _ _ _ w' (b1.later hb) (b2.later hb)
  have hE1 : ∀ k, k < L.length → ∃ ga gb, w.rangeAt g1 (k * 5) (StC (tAt L k).1 (.slice (some ⟨ga, 0, none⟩) (tAt L k).2.length ((tAt L k).2.length + roomN (tAt L k).2.length))).toList ∧ w.rangeAt g2 (k * 5) (StC (tAt L k).1 (.slice (some ⟨gb, 0, none⟩) (tAt L k).2.length ((tAt L k).2.length + roomN (tAt L k).2.length))).toList ∧ Held eCg w ga 113 (roomy fillCg (tAt L k).2) ∧ Held eCg w gb 113 (roomy fillCg (tAt L k).2) := by
    intro k hk
    have l1 := h1.len
    have l2 := h2.len
    obtain ⟨p1, p2⟩ := h1.ins k hk
    obtain ⟨q1, q2⟩ := h2.ins k hk
    have e1 := h1.held.elem (rAt_get (R := R1) (i := k) (by omega))
    have e2 := h2.held.elem (rAt_get (R := R2) (i := k) (by omega))
    rcases p2 with ⟨h, _⟩ | ⟨ga, ea, _, ha⟩
    · cases h
    rcases q2 with ⟨h, _⟩ | ⟨gb, eb, _, hb⟩
    · cases h
    refine ⟨ga, gb, ?_, ?_, ha, hb⟩
    · rw [← ea, ← p1]; exact e1
    · rw [← eb, ← q1]; exact e2
  have l1 := h1.lt
  have l2 := h2.lt
  have HE1 := Lib.hid hE1
  have CE := Lib.hid cE
  have HS := Lib.hid hS
  clear hE1 cE b1 b2 h1 h2 hS
  generalize hR : roomN L.length = r at *
  generalize hn : L.length = n at *
  have q1 := run_slice_beh g1 n r
  have q2 := run_slice_beh g2 n r
  have HR := Lib.hid hR
  have HN := Lib.hid hn
  clear hR hn hz0 hz1 hz2 hi
  go_enter Try.func14, Try.ntmps14
  go_wp2_with (go_at_call 42; refine (room_any _ _ hL).mono ?_; rintro e w' ⟨rfl, rfl⟩; rw [HR.out])
  go_loopw [6] (fun i wr => ∃ k : Nat, k ≤ n ∧ i = .int .i64 k ∧ Below w.heap.size w wr) (fun i _ => n - (intOf i).toNat)
  case atStart => exact ⟨0, by omega, rfl, Below.refl _ _⟩
  case round =>
    obtain ⟨k, hk, rfl, hb⟩ := hrel
    by_cases hlt : k < n
    · obtain ⟨ga, gb, r1, r2, ha, hb1⟩ := HE1.out k hlt
      have z1 := range_below r1 hb l1
      have z2 := range_below r2 hb l2
      have y1 : g1 < wr.heap.size := Nat.lt_of_lt_of_le l1 hb.size
      have y2 : g2 < wr.heap.size := Nat.lt_of_lt_of_le l2 hb.size
      have cI := fun w' (hb' : Below wr.heap.size wr w') => intactStep_any ga gb (tAt L k).1 (tAt L k).2 w' (HS.out k hlt) ((ha.below hb ha.lt).below hb' (Nat.lt_of_lt_of_le ha.lt hb.size)) ((hb1.below hb hb1.lt).below hb' (Nat.lt_of_lt_of_le hb1.lt hb.size))
      have CI := Lib.hid cI
      clear r1 r2 ha hb1 cI q1 q2
      generalize (tAt L k).2.length + roomN (tAt L k).2.length = m at *
      generalize (tAt L k).2.length = m0 at *
      generalize (tAt L k).1 = hd at *
      go_wp2_with fail
      refine wp_region_calm (by kernel_rfl) (by kernel_rfl) ?_
      repeat (first | (first | refine wpQuiet_load_el (E := eSt) rfl 71 _ rfl _ _ rfl (hd, some ⟨ga, 0, none⟩, m0, m) (StC hd (.slice (some ⟨ga, 0, none⟩) m0 m)) rfl z1 y1 Try.underlying71 rfl (by kernel_rfl) ?_ | refine wpQuiet_load_el (E := eSt) rfl 71 _ rfl _ _ rfl (hd, some ⟨gb, 0, none⟩, m0, m) (StC hd (.slice (some ⟨gb, 0, none⟩) m0 m)) rfl z2 y2 Try.underlying71 rfl (by kernel_rfl) ?_) | quiet_step (exact Calls.regrown_of (CI.out _ (below_regrown _ _ _))))
      refine wpQuiet_nil ?_
      intro w3 hb3
      replace hb := grown_below hb hb3 hb.size
      clear z1 z2 hb3 CI
      go_wp2
      go_roundw
      case rel =>
        go_light
        exact ⟨k + 1, by omega, by go_num, hb⟩
      case measure => simp [intOf]; omega
    · have hkn : k = n := by omega
      subst hkn
      have cE := fun w' (hb' : Below wr.heap.size wr w') => CE.out w' (grown_below hb hb' hb.size)
      have CE2 := Lib.hid cE
      clear cE CE
      go_wp2_with fail
      refine wp_region_calm (by kernel_rfl) (by kernel_rfl) ?_
      repeat (quiet_step (exact Calls.regrown_of (CE2.out _ (below_regrown _ _ _))))
      refine wpQuiet_nil ?_
      intro w3 hb3
      replace hb := grown_below hb hb3 hb.size
      go_wp2
      go_ret
      exact ⟨rfl, hb⟩
end Go.Proofs.Ytjbjbdkmomkclaa
