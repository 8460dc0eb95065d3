/- impl: checkWay, PlaceAt. -/
import Derived.Test.YtoccklhfiojemaaDoorAt
import Derived.Test.YtoccklhfiojemaaDoorErrs
namespace Go.Proofs.YtoccklhfiojemaaDoor
set_option maxRecDepth 100000
open Go.RowKit
set_option linter.unusedVariables false
set_option linter.unusedSimpArgs false
theorem errV1 (a : Nat → Addr) : errV a 1 = .iface 116 (.pointer (some (a 0))) := rfl
theorem errV2 (a : Nat → Addr) : errV a 2 = .iface 116 (.pointer (some (a 1))) := rfl
theorem errV3 (a : Nat → Addr) : errV a 3 = .iface 116 (.pointer (some (a 2))) := rfl
theorem errV4 (a : Nat → Addr) : errV a 4 = .iface 116 (.pointer (some (a 3))) := rfl
theorem errV0 (a : Nat → Addr) : errV a 0 = .nilIface := rfl
theorem Sent.var0 {w : World} {a : Nat → Addr} (h : Sent w a) : w.cell? ⟨0, 0, none⟩ = some (.iface 116 (.pointer (some (a 0)))) := h.var 0 (by decide)
theorem Sent.var1 {w : World} {a : Nat → Addr} (h : Sent w a) : w.cell? ⟨1, 0, none⟩ = some (.iface 116 (.pointer (some (a 1)))) := h.var 1 (by decide)
theorem Sent.var2 {w : World} {a : Nat → Addr} (h : Sent w a) : w.cell? ⟨2, 0, none⟩ = some (.iface 116 (.pointer (some (a 2)))) := h.var 2 (by decide)
theorem Sent.var3 {w : World} {a : Nat → Addr} (h : Sent w a) : w.cell? ⟨3, 0, none⟩ = some (.iface 116 (.pointer (some (a 3)))) := h.var 3 (by decide)
set_option maxHeartbeats 1000000 in
theorem checkWay_any (v : Value) (L : List (Int × Int × Int)) (ea : Int) (a : Nat → Addr) (w : World) (hL : ltK L) (h : SlAt eKy w w.heap.size v L) (hs : Sent w a) :
    Calls Tryd.prog 39 #[v, .int .i64 ea] w fun r w' => r = .returned (errV a (wyC L ea true)) ∧ Below w.heap.size w w' := by
  have cO := implValidTrack_any v L w hL h
  have cE := fun w => isEase_any ea w
  obtain ⟨A, c, rfl⟩ := h.form
  clear h
  rcases wyC_cases L ea true with ⟨h1, hc⟩ | ⟨h1, h2, hc⟩ | ⟨h1, h2, h3, hc⟩ | ⟨h1, h2, h3, hc⟩
  · rw [h1] at cO
    rw [hc, errV1]
    clear h1 hc
    go_enter Tryd.func39, Tryd.ntmps39
    go_wp2_with (go_at_call 64; refine cO.mono ?_; rintro r w' ⟨rfl, hb⟩; have q0 := (hs.below hb).var0; clear cO hs)
    go_ret
    exact ⟨rfl, hb⟩
  · rw [h1] at cO
    rw [h2] at cE
    rw [hc, errV2]
    clear h1 h2 hc
    go_enter Tryd.func39, Tryd.ntmps39
    go_wp2_with (first | (go_at_call 64; refine cO.mono ?_; rintro r w' ⟨rfl, hb⟩; have q1 := (hs.below hb).var1; clear cO hs) | (go_at_call 65; refine (cE _).mono ?_; rintro r w' ⟨rfl, rfl⟩))
    go_ret
    exact ⟨rfl, hb⟩
  · cases h3
  · rw [h1] at cO
    rw [h2] at cE
    rw [hc, errV0]
    clear h1 h2 h3 hc hs
    go_enter Tryd.func39, Tryd.ntmps39
    go_wp2_with (first | (go_at_call 64; refine cO.mono ?_; rintro r w' ⟨rfl, hb⟩; clear cO) | (go_at_call 65; refine (cE _).mono ?_; rintro r w' ⟨rfl, rfl⟩))
    go_ret
    exact ⟨rfl, hb⟩
set_option maxHeartbeats 2000000 in
theorem implPlaceAt_any (v : Value) (L : List (Int × Int × Int)) (ea t : Int) (w : World) (a : Nat → Addr) (hL : ltK L) (h : SlAt eKy w w.heap.size v L) (hs : Sent w a) :
    Calls Tryd.prog 13 #[v, .int .i64 ea, .int .i64 t] w fun r w' => r = .returned (.tuple #[.int .i64 (paX L ea t), .int .i64 (paY L ea t), .int .i64 (wyC L ea (inB t 0 200))]) ∧ Below w.heap.size w w' := by
  have cW := checkWay_any v L ea a w hL h hs
  have cC := fun c hc w' (hb : Below w.heap.size w w') => codeOf_any c a w' (hs.below hb) hc
  have cT := fun w => isTick_any t w
  have cP := fun w' (hb : Below w.heap.size w w') ho he ht => at_any v L ea t w' ho he ht (h.later hb)
  obtain ⟨A, c, rfl⟩ := h.form
  clear h hs
  unfold paX paY
  rcases wyC_cases L ea (inB t 0 200) with ⟨h1, hc⟩ | ⟨h1, h2, hc⟩ | ⟨h1, h2, h3, hc⟩ | ⟨h1, h2, h3, hc⟩
  · have hw : wyC L ea true = 1 := by unfold wyC; rw [h1]; rfl
    have CC := Lib.hid (cC 1 (by omega))
    rw [hw, errV1] at cW
    rw [errV1] at CC
    rw [hc, ifI1 _ (by decide), ifI1 _ (by decide)]
    clear h1 hc hw cC cP
    go_enter Tryd.func13, Tryd.ntmps13
    go_wp2_with (first | (go_at_call 39; refine cW.mono ?_; rintro r w' ⟨rfl, hb⟩; clear cW) | (go_at_call 40; refine (CC.out _ hb).mono ?_; rintro r w2 ⟨rfl, rfl⟩))
    go_ret3
    exact ⟨rfl, hb⟩
  · have hw : wyC L ea true = 2 := by unfold wyC; rw [h1, h2]; rfl
    have CC := Lib.hid (cC 2 (by omega))
    rw [hw, errV2] at cW
    rw [errV2] at CC
    rw [hc, ifI1 _ (by decide), ifI1 _ (by decide)]
    clear h1 h2 hc hw cC cP
    go_enter Tryd.func13, Tryd.ntmps13
    go_wp2_with (first | (go_at_call 39; refine cW.mono ?_; rintro r w' ⟨rfl, hb⟩; clear cW) | (go_at_call 40; refine (CC.out _ hb).mono ?_; rintro r w2 ⟨rfl, rfl⟩))
    go_ret3
    exact ⟨rfl, hb⟩
  · have hw : wyC L ea true = 0 := by unfold wyC; rw [h1, h2]; rfl
    rw [hw, errV0] at cW
    rw [h3] at cT
    rw [hc, ifI1 _ (by decide), ifI1 _ (by decide)]
    clear h1 h2 h3 hc hw cC cP
    go_enter Tryd.func13, Tryd.ntmps13
    go_wp2_with (first | (go_at_call 39; refine cW.mono ?_; rintro r w' ⟨rfl, hb⟩; clear cW) | (go_at_call 41; refine (cT _).mono ?_; rintro r w2 ⟨rfl, rfl⟩))
    go_ret3
    exact ⟨rfl, hb⟩
  · have hw : wyC L ea true = 0 := by unfold wyC; rw [h1, h2]; rfl
    have HP := Lib.hid (fun w' hb => cP w' hb h1 (inB_iff.1 h2) (inB_iff.1 h3))
    have hin := plK_in h1 ea t
    have hft := plK_fst L ea t
    rw [hw, errV0] at cW
    rw [h3] at cT
    rw [hc, ifI0, ifI0]
    clear h1 h2 h3 hc hw cC cP
    generalize plK L ea t = p at *
    obtain ⟨p0, p1, p2⟩ := p
    unfold KC at HP
    dsimp only at hin hft HP
    have k1 : IntKind.i64.wrap p1 = p1 := IntWalk.i64_in _ (by omega)
    have k2 : IntKind.i64.wrap p2 = p2 := IntWalk.i64_in _ (by omega)
    clear hin hft
    go_enter Tryd.func13, Tryd.ntmps13
    go_wp2_with (first | (go_at_call 39; refine cW.mono ?_; rintro r w1 ⟨rfl, hb⟩; clear cW) | (go_at_call 41; refine (cT _).mono ?_; rintro r w2 ⟨rfl, rfl⟩) | (go_at_call 42; refine (HP.out _ hb).mono ?_; rintro r w3 ⟨rfl, hb3⟩; replace hb := grown_below hb hb3 hb.size; clear hb3 HP; have h9 := hb.alloc hb.size (.cells #[.int .i16 p0, .int .i8 p1, .int .i8 p2] 55)))
    go_region
    go_wp2
    go_ret3
    exact ⟨rfl, h9.drew⟩
end Go.Proofs.YtoccklhfiojemaaDoor
