/- COST OF ONE STEP: CostOf: spec and impl. -/
import Derived.Test.YtjbjbdkmomkclaaDoorCst
namespace Go.Proofs.YtjbjbdkmomkclaaDoor
set_option maxRecDepth 100000
open Go.RowKit
set_option linter.unusedVariables false
set_option linter.unusedSimpArgs false
def coZ (q : Int) (n : Nat) : Int := if 0 ≤ q ∧ q ≤ 2 ∧ n ≤ 12 then 0 else 2
set_option maxHeartbeats 2000000 in
theorem specCostOf_any (h : Hd) (A : Option Addr) (n c : Nat) (w : World) (hh : ltHd h) (hn : n ≤ 1000000) :
    Calls Tryd.prog 9 #[.agg (StC h (.slice A n c))] w fun e w' => e = .returned (.tuple #[.int .i64 (ifI (coZ h.1 n) (baseZ h.1 + 3 * (n : Int))), .int .i64 (coZ h.1 n)]) ∧ Below w.heap.size w w' := by
  have a1 := Row.new w 31 (StC h (.slice A n c))
  have h0 := (Below.refl w.heap.size w).alloc (Nat.le_refl _) (.cells (StC h (.slice A n c)) 31)
  have r : (w.alloc (.cells (StC h (.slice A n c)) 31)).rangeAt w.heap.size 0 (StC h (.slice A n c)).toList := range_new w 31 _
  have cC := fun hq => specCost_any w.heap.size 0 h A n c _ hq hn r (by simp)
  obtain ⟨q, p, e, s⟩ := h
  have hq := hh.1
  simp only at hq cC ⊢
  have wq : IntKind.i64.wrap q = q := IntWalk.i64_in _ (by omega)
  have cH := fun w => how_any q w
  clear r a1
  cases hA : inB q 0 2 with
  | false =>
    have hc : coZ q n = 2 := if_neg (fun e => by have := inB_false.1 hA; omega)
    rw [hc, ifI1 _ (by decide)]
    rw [hA] at cH
    clear cC hc hA
    unfold StC at *
    go_enter Tryd.func9, Tryd.ntmps9
    go_wp2_with (go_at_call 29; refine (cH _).mono ?_; rintro e' w' ⟨rfl, rfl⟩)
    go_ret2
    exact ⟨rfl, h0⟩
  | true =>
    have hq3 := inB_iff.1 hA
    rw [hA] at cH
    by_cases hn12 : n ≤ 12
    · have hc : coZ q n = 0 := if_pos ⟨hq3.1, hq3.2, hn12⟩
      rw [hc, ifI0]
      have cC2 := cC (by omega)
      clear cC hc hA
      generalize baseZ q + 3 * (n : Int) = z at *
      unfold StC at *
      go_enter Tryd.func9, Tryd.ntmps9
      go_wp2_with (first | (go_at_call 29; refine (cH _).mono ?_; rintro e' w' ⟨rfl, rfl⟩) | (go_at_call 30; refine cC2.mono ?_; rintro e' w2 ⟨rfl, hb2⟩; replace h0 := grown_below h0 hb2 h0.size))
      go_ret2
      exact ⟨rfl, h0⟩
    · have hc : coZ q n = 2 := if_neg (fun e => hn12 e.2.2)
      rw [hc, ifI1 _ (by decide)]
      clear cC hc hA
      unfold StC at *
      go_enter Tryd.func9, Tryd.ntmps9
      go_wp2_with (go_at_call 29; refine (cH _).mono ?_; rintro e' w' ⟨rfl, rfl⟩)
      go_ret2
      exact ⟨rfl, h0⟩
set_option maxHeartbeats 2000000 in
theorem implCostOf_any (h : Hd) (A : Option Addr) (n c : Nat) (w : World) (hh : ltHd h) (hn : n ≤ 1000000) (hK : Kd w) :
    Calls Tryd.prog 11 #[.agg (StC h (.slice A n c))] w fun e w' => e = .returned (.tuple #[.int .i64 (ifI (coZ h.1 n) (baseZ h.1 + 3 * (n : Int))), .int .i64 (coZ h.1 n)]) ∧ Below w.heap.size w w' := by
  have h0 := (Below.refl w.heap.size w).alloc (Nat.le_refl _) (.cells (StC h (.slice A n c)) 31)
  have cC := fun hq w' (hb : Below w.heap.size w w') => cost_any h A n c w' hq hn (hK.below hb)
  obtain ⟨q, p, e, s⟩ := h
  have hq := hh.1
  simp only at hq cC ⊢
  have wq : IntKind.i64.wrap q = q := IntWalk.i64_in _ (by omega)
  by_cases q0 : q < 0
  · have hc : coZ q n = 2 := if_neg (fun e => by omega)
    rw [hc, ifI1 _ (by decide)]
    clear cC hc
    unfold StC at *
    go_enter Tryd.func11, Tryd.ntmps11
    go_wp2
    go_ret2
    exact ⟨rfl, h0⟩
  · by_cases q3 : 3 ≤ q
    · have hc : coZ q n = 2 := if_neg (fun e => by omega)
      rw [hc, ifI1 _ (by decide)]
      clear cC hc
      unfold StC at *
      go_enter Tryd.func11, Tryd.ntmps11
      go_wp2
      go_ret2
      exact ⟨rfl, h0⟩
    · by_cases hn12 : 12 < n
      · have hc : coZ q n = 2 := if_neg (fun e => by omega)
        rw [hc, ifI1 _ (by decide)]
        clear cC hc
        unfold StC at *
        go_enter Tryd.func11, Tryd.ntmps11
        go_wp2
        go_ret2
        exact ⟨rfl, h0⟩
      · have hc : coZ q n = 0 := if_pos ⟨by omega, by omega, by omega⟩
        rw [hc, ifI0]
        have cC2 := cC (by omega)
        clear cC hc
        generalize baseZ q + 3 * (n : Int) = z at *
        unfold StC at *
        go_enter Tryd.func11, Tryd.ntmps11
        go_wp2_with (go_at_call 32; refine (cC2 _ h0).mono ?_; rintro e' w2 ⟨rfl, hb2⟩; replace h0 := grown_below h0 hb2 h0.size)
        go_ret2
        exact ⟨rfl, h0⟩
end Go.Proofs.YtjbjbdkmomkclaaDoor
