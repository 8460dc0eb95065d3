/- spec: l03Asked, PlaceAt. -/
import Derived.Test.YtoccklhfiojemaaDoorPlace
namespace Go.Proofs.YtoccklhfiojemaaDoor
set_option maxRecDepth 100000
open Go.RowKit
set_option linter.unusedVariables false
set_option linter.unusedSimpArgs false
set_option maxHeartbeats 1000000 in
theorem specAsked_any (v : Value) (L : List (Int × Int × Int)) (ea : Int) (f : Bool) (w : World) (hL : ltK L) (h : SlAt eKy w w.heap.size v L) :
    Calls Tryd.prog 33 #[v, .int .i64 ea, .bool f] w fun r w' => r = .returned (.int .i64 (wyC L ea f)) ∧ Below w.heap.size w w' := by
  have cO := specOkT_any v L w hL h
  have cE := fun w => specEase_any ea w
  obtain ⟨A, c, rfl⟩ := h.form
  clear h
  rcases wyC_cases L ea f with ⟨h1, hc⟩ | ⟨h1, h2, hc⟩ | ⟨h1, h2, h3, hc⟩ | ⟨h1, h2, h3, hc⟩
  · rw [h1] at cO
    rw [hc]
    clear h1 hc
    go_enter Tryd.func33, Tryd.ntmps33
    go_wp2_with (go_at_call 55; refine cO.mono ?_; rintro r w' ⟨rfl, hb⟩; clear cO)
    go_ret
    exact ⟨rfl, hb⟩
  · rw [h1] at cO
    rw [h2] at cE
    rw [hc]
    clear h1 h2 hc
    go_enter Tryd.func33, Tryd.ntmps33
    go_wp2_with (first | (go_at_call 55; refine cO.mono ?_; rintro r w' ⟨rfl, hb⟩; clear cO) | (go_at_call 62; refine (cE _).mono ?_; rintro r w' ⟨rfl, rfl⟩))
    go_ret
    exact ⟨rfl, hb⟩
  · subst h3
    rw [h1] at cO
    rw [h2] at cE
    rw [hc]
    clear h1 h2 hc
    go_enter Tryd.func33, Tryd.ntmps33
    go_wp2_with (first | (go_at_call 55; refine cO.mono ?_; rintro r w' ⟨rfl, hb⟩; clear cO) | (go_at_call 62; refine (cE _).mono ?_; rintro r w' ⟨rfl, rfl⟩))
    go_ret
    exact ⟨rfl, hb⟩
  · subst h3
    rw [h1] at cO
    rw [h2] at cE
    rw [hc]
    clear h1 h2 hc
    go_enter Tryd.func33, Tryd.ntmps33
    go_wp2_with (first | (go_at_call 55; refine cO.mono ?_; rintro r w' ⟨rfl, hb⟩; clear cO) | (go_at_call 62; refine (cE _).mono ?_; rintro r w' ⟨rfl, rfl⟩))
    go_ret
    exact ⟨rfl, hb⟩
set_option maxHeartbeats 1000000 in
theorem specPlaceAt_any (v : Value) (L : List (Int × Int × Int)) (ea t : Int) (w : World) (hL : ltK L) (h : SlAt eKy w w.heap.size v L) :
    Calls Tryd.prog 11 #[v, .int .i64 ea, .int .i64 t] w fun r w' => r = .returned (.tuple #[.int .i64 (paX L ea t), .int .i64 (paY L ea t), .int .i64 (wyC L ea (inB t 0 200))]) ∧ Below w.heap.size w w' := by
  have cA := fun w' (hb : Below w.heap.size w w') => specAsked_any v L ea (inB t 0 200) w' hL (h.later hb)
  have cT := fun w => specTick_any t w
  have cP := fun w' (hb : Below w.heap.size w w') ho he ht => specPlace_any v L ea t w' ho he ht (h.later hb)
  obtain ⟨A, c, rfl⟩ := h.form
  unfold paX paY
  by_cases hc : wyC L ea (inB t 0 200) = 0
  · have h3 : okT L = true ∧ inB ea 0 3 = true ∧ inB t 0 200 = true := by
      rcases wyC_cases L ea (inB t 0 200) with ⟨h1, hc'⟩ | ⟨h1, h2, hc'⟩ | ⟨h1, h2, h3, hc'⟩ | ⟨h1, h2, h3, hc'⟩
      · omega
      · omega
      · omega
      · exact ⟨h1, h2, h3⟩
    rw [hc] at cA ⊢
    rw [ifI0, ifI0]
    have HP := Lib.hid (fun w' hb => cP w' hb h3.1 (inB_iff.1 h3.2.1) (inB_iff.1 h3.2.2))
    clear cP hc h3 h
    generalize (plK L ea t).2.1 = x at *
    generalize (plK L ea t).2.2 = y at *
    generalize inB t 0 200 = f at *
    go_enter Tryd.func11, Tryd.ntmps11
    go_wp2_with (first | (go_at_call 34; refine (cT _).mono ?_; rintro r w' ⟨rfl, rfl⟩) | (go_at_call 33; refine (cA _ (Below.refl _ _)).mono ?_; rintro r w1 ⟨rfl, hb⟩; clear cA) | (go_at_call 35; refine (HP.out _ hb).mono ?_; rintro r w2 ⟨rfl, hb2⟩; replace hb := grown_below hb hb2 hb.size; clear hb2))
    go_ret3
    exact ⟨rfl, hb⟩
  · rw [ifI1 _ hc, ifI1 _ hc]
    have hne : ((wyC L ea (inB t 0 200)) != 0) = true := by simp [hc]
    clear cP h
    generalize wyC L ea (inB t 0 200) = c0 at *
    generalize inB t 0 200 = f at *
    clear hc
    go_enter Tryd.func11, Tryd.ntmps11
    go_wp2_with (first | (go_at_call 34; refine (cT _).mono ?_; rintro r w' ⟨rfl, rfl⟩) | (go_at_call 33; refine (cA _ (Below.refl _ _)).mono ?_; rintro r w1 ⟨rfl, hb⟩; clear cA))
    go_ret3
    exact ⟨rfl, hb⟩
end Go.Proofs.YtoccklhfiojemaaDoor
