/- PLACES. spec: l03Place, l03Asked, PlaceAt. -/
import Derived.Test.YtoccklhfiojemaaDoorPlaceM
import Derived.Test.YtoccklhfiojemaaDoorTrack
import Derived.Test.YtoccklhfiojemaaDoorBetween
import Derived.Deep.QuietTactic
namespace Go.Proofs.YtoccklhfiojemaaDoor
set_option maxRecDepth 100000
open Go.RowKit
set_option linter.unusedVariables false
set_option linter.unusedSimpArgs false
set_option maxHeartbeats 2000000 in
theorem specPlace_any (v : Value) (L : List (Int × Int × Int)) (ea t : Int) (w : World) (ho : okT L = true) (he : 0 ≤ ea ∧ ea ≤ 3) (ht : 0 ≤ t ∧ t ≤ 200) (h : SlAt eKy w w.heap.size v L) :
    Calls Tryd.prog 35 #[v, .int .i64 ea, .int .i64 t] w fun r w' => r = .returned (.tuple #[.int .i64 (plK L ea t).2.1, .int .i64 (plK L ea t).2.2]) ∧ Below w.heap.size w w' := by
  obtain ⟨A, c, rfl, h1, h2, hA⟩ := h
  unfold maxLen at h2
  have hlen := (okT_iff.1 ho).1
  obtain ⟨b1, o1, rfl, hb1, r1⟩ := hA (by omega)
  have hl1 := hlen.1
  have hl2 := hlen.2
  have ht1 := ht.1
  have ht2 := ht.2
  clear hA hlen h2
  go_enter Tryd.func35, Tryd.ntmps35
  go_wp2
  go_loop [8] (fun i => ∃ k : Nat, k < L.length ∧ i = .int .i64 k ∧ (∀ j, 0 < j → j ≤ k → (kAt L j).1 ≤ t)) (fun i => L.length - (intOf i).toNat)
  case atStart => exact ⟨0, by omega, rfl, by omega⟩
  case round =>
    obtain ⟨k, hk, rfl, hlo⟩ := hrel
    have HLO := Lib.hid hlo
    clear hlo
    have g0 := range_part r1 (kAt_get hk)
    rw [eKy_n] at g0
    have c0 := ky_cell0 g0
    have c1 := ky_cell1 g0
    have c2 := ky_cell2 g0
    have q0 := okT_key ho hk
    clear g0
    by_cases hlt : k + 1 < L.length
    · have g1 := range_part r1 (kAt_get hlt)
      rw [eKy_n] at g1
      have d0 := ky_cell0 g1
      have d1 := ky_cell1 g1
      have d2 := ky_cell2 g1
      have q1 := okT_key ho hlt
      have hup := okT_up ho hlt
      clear g1 r1
      by_cases hle : (kAt L (k + 1)).1 ≤ t
      · have HH := Lib.hid (show ∀ j, 0 < j → j ≤ k + 1 → (kAt L j).1 ≤ t from fun j h0 hj => by
          by_cases e : j = k + 1
          · subst e; exact hle
          · exact HLO.out j h0 (by omega))
        generalize (kAt L (k + 1)).1 = s at *
        have kk : IntKind.i64.wrap s = s := IntWalk.i64_in _ (by omega)
        clear c0 c1 c2 d1 d2 q0 hup
        go_wp2
        go_round
        case rel =>
          go_light
          exact ⟨k + 1, by omega, by go_num, HH.out⟩
        case measure => simp [intOf]; omega
      · by_cases hti : t ≤ (kAt L k).1
        · have hv := plK_end ho (e := ea) hk HLO.out (fun _ => by omega) (Or.inr hti)
          have HV := Lib.hid (show (plK L ea t).2.1 = (kAt L k).2.1 ∧ (plK L ea t).2.2 = (kAt L k).2.2 from ⟨by rw [hv], by rw [hv]⟩)
          generalize (kAt L (k + 1)).1 = s at *
          generalize (kAt L k).1 = p at *
          generalize (kAt L k).2.1 = x at *
          generalize (kAt L k).2.2 = y at *
          have k1 : IntKind.i64.wrap s = s := IntWalk.i64_in _ (by omega)
          have k2 : IntKind.i64.wrap p = p := IntWalk.i64_in _ (by omega)
          have k3 : IntKind.i64.wrap x = x := IntWalk.i64_in _ (by omega)
          have k4 : IntKind.i64.wrap y = y := IntWalk.i64_in _ (by omega)
          clear hv d1 d2
          go_wp2
          go_ret2
          exact ⟨by rw [HV.out.1, HV.out.2]; rfl, Below.refl _ _⟩
        · have hn := plK_way ho hlt HLO.out (by omega) (by omega)
          have hs := seg_share hn hlt
          have hb := shareI_bounds (e := ea) ⟨hs.1, hs.2.1⟩ hs.2.2
          have cH := fun w => specShare_any ea (t - (kAt L k).1) ((kAt L (k + 1)).1 - (kAt L k).1) w he ⟨hs.1, hs.2.1⟩ ⟨hs.2.2, by omega⟩
          have cX := fun w => specBetween_any (kAt L k).2.1 (kAt L (k + 1)).2.1 (shareI ea (t - (kAt L k).1) ((kAt L (k + 1)).1 - (kAt L k).1)) w ⟨by omega, by omega⟩ ⟨by omega, by omega⟩ hb
          have cY := fun w => specBetween_any (kAt L k).2.2 (kAt L (k + 1)).2.2 (shareI ea (t - (kAt L k).1) ((kAt L (k + 1)).1 - (kAt L k).1)) w ⟨by omega, by omega⟩ ⟨by omega, by omega⟩ hb
          have HV := Lib.hid (show (plK L ea t).2.1 = betI (kAt L k).2.1 (kAt L (k + 1)).2.1 (shareI ea (t - (kAt L k).1) ((kAt L (k + 1)).1 - (kAt L k).1)) ∧ (plK L ea t).2.2 = betI (kAt L k).2.2 (kAt L (k + 1)).2.2 (shareI ea (t - (kAt L k).1) ((kAt L (k + 1)).1 - (kAt L k).1)) from ⟨by rw [plK_mid hn hlt], by rw [plK_mid hn hlt]⟩)
          generalize betI (kAt L k).2.1 (kAt L (k + 1)).2.1 (shareI ea (t - (kAt L k).1) ((kAt L (k + 1)).1 - (kAt L k).1)) = X at *
          generalize betI (kAt L k).2.2 (kAt L (k + 1)).2.2 (shareI ea (t - (kAt L k).1) ((kAt L (k + 1)).1 - (kAt L k).1)) = Y at *
          generalize shareI ea (t - (kAt L k).1) ((kAt L (k + 1)).1 - (kAt L k).1) = sh at *
          generalize (kAt L (k + 1)).1 = s at *
          generalize (kAt L (k + 1)).2.1 = u at *
          generalize (kAt L (k + 1)).2.2 = z at *
          generalize (kAt L k).1 = p at *
          generalize (kAt L k).2.1 = x at *
          generalize (kAt L k).2.2 = y at *
          have k1 : IntKind.i64.wrap s = s := IntWalk.i64_in _ (by omega)
          have k2 : IntKind.i64.wrap p = p := IntWalk.i64_in _ (by omega)
          have k3 : IntKind.i64.wrap x = x := IntWalk.i64_in _ (by omega)
          have k4 : IntKind.i64.wrap y = y := IntWalk.i64_in _ (by omega)
          have k5 : IntKind.i64.wrap u = u := IntWalk.i64_in _ (by omega)
          have k6 : IntKind.i64.wrap z = z := IntWalk.i64_in _ (by omega)
          have k7 : IntKind.i64.wrap (t - p) = t - p := IntWalk.i64_in _ (by omega)
          have k8 : IntKind.i64.wrap (s - p) = s - p := IntWalk.i64_in _ (by omega)
          have kk1 : IntKind.i64.wrap ((k : Int) + 1) = (k : Int) + 1 := IntWalk.i64_in _ (by omega)
          have kk2 : (0 : Int) ≤ (k : Int) + 1 := by omega
          clear hb hs hn hup
          have cH' := fun w => (cH w).mono (R' := fun r w' => r = .returned (.int .i64 sh) ∧ w' = w) fun _ _ ⟨h1, h2⟩ => ⟨h1, h2.symm⟩
          have cX' := fun w => (cX w).mono (R' := fun r w' => r = .returned (.int .i64 X) ∧ w' = w) fun _ _ ⟨h1, h2⟩ => ⟨h1, h2.symm⟩
          have cY' := fun w => (cY w).mono (R' := fun r w' => r = .returned (.int .i64 Y) ∧ w' = w) fun _ _ ⟨h1, h2⟩ => ⟨h1, h2.symm⟩
          clear cH cX cY
          go_wp2
          go_quiet (exact Calls.quiet_of_same (cH' _))
          have c0' : (w.drewN nq).cell? ⟨b1, o1 + k * 3, none⟩ = some (.int .i16 p) := c0
          have d1' : (w.drewN nq).cell? ⟨b1, o1 + (k + 1) * 3 + 1, none⟩ = some (.int .i8 u) := d1
          have d2' : (w.drewN nq).cell? ⟨b1, o1 + (k + 1) * 3 + 2, none⟩ = some (.int .i8 z) := d2
          have hb5 := below_drewN (Below.refl w.heap.size w) nq
          clear c0 c1 c2 d0 d1 d2
          generalize w.drewN nq = w5 at *
          go_wp2
          go_quiet (first | with_reducible exact Calls.quiet_of_same (cX' _) | with_reducible exact Calls.quiet_of_same (cY' _))
          go_wp2
          go_ret2
          exact ⟨by rw [HV.out.1, HV.out.2]; rfl, below_drewN hb5 _⟩
    · have hkl : k + 1 = L.length := by omega
      have hv := plK_end ho (e := ea) hk HLO.out (fun _ => by omega) (Or.inl hkl)
      have HV := Lib.hid (show (plK L ea t).2.1 = (kAt L k).2.1 ∧ (plK L ea t).2.2 = (kAt L k).2.2 from ⟨by rw [hv], by rw [hv]⟩)
      generalize (kAt L k).1 = p at *
      generalize (kAt L k).2.1 = x at *
      generalize (kAt L k).2.2 = y at *
      have k2 : IntKind.i64.wrap p = p := IntWalk.i64_in _ (by omega)
      have k3 : IntKind.i64.wrap x = x := IntWalk.i64_in _ (by omega)
      have k4 : IntKind.i64.wrap y = y := IntWalk.i64_in _ (by omega)
      clear hv r1
      go_wp2
      go_ret2
      exact ⟨by rw [HV.out.1, HV.out.2]; rfl, Below.refl _ _⟩
end Go.Proofs.YtoccklhfiojemaaDoor
