/- EASES, the program: shareOf (a table of functions), EaseOf. -/
import Derived.Test.YtoccklhfiojemabIEase
namespace Go.Proofs.Ytoccklhfiojemab
set_option maxRecDepth 100000
open Go.RowKit
set_option linter.unusedVariables false
set_option linter.unusedSimpArgs false
set_option maxHeartbeats 1000000 in
theorem shareOf_any (e s n : Int) (w : World) (he : 0 ≤ e ∧ e ≤ 3) (hs : 0 ≤ s ∧ s ≤ n) (hn : 1 ≤ n ∧ n ≤ 200) :
    Calls Try.prog 28 #[.int .i64 e, .int .i64 s, .int .i64 n] w fun r w' => r = .returned (.int .i64 (shareI e s n)) ∧ Below w.heap.size w w' := by
  have c0 := fun w => evenShare_any s n w hs hn
  have c1 := fun w => slowInShare_any s n w hs hn
  have c2 := fun w => slowOutShare_any s n w hs hn
  have c3 := fun w => slowBothShare_any s n w hs hn
  have d0 : ∀ w, (callFunc 45 #[.int .i64 s, .int .i64 n]).run Try.prog w = .ok (.enter 45 #[.int .i64 s, .int .i64 n]) w := fun w => by kernel_rfl
  have d1 : ∀ w, (callFunc 46 #[.int .i64 s, .int .i64 n]).run Try.prog w = .ok (.enter 46 #[.int .i64 s, .int .i64 n]) w := fun w => by kernel_rfl
  have d2 : ∀ w, (callFunc 47 #[.int .i64 s, .int .i64 n]).run Try.prog w = .ok (.enter 47 #[.int .i64 s, .int .i64 n]) w := fun w => by kernel_rfl
  have d3 : ∀ w, (callFunc 48 #[.int .i64 s, .int .i64 n]).run Try.prog w = .ok (.enter 48 #[.int .i64 s, .int .i64 n]) w := fun w => by kernel_rfl
  have hst : ∀ (k : Nat) a m w, (store a (.func (.func k) #[] #[]) m).run Try.prog w = stored Try.prog w a (.func (.func k) #[] #[]) m := fun k a m w => run_store Try.prog w a _ m rfl
  have h0 := Below.refl w.heap.size w
  have hcases : e = 0 ∨ e = 1 ∨ e = 2 ∨ e = 3 := by omega
  clear he hs hn
  rcases hcases with rfl | rfl | rfl | rfl
  · clear c1 c2 c3 d1 d2 d3
    generalize shareI 0 s n = v at *
    go_enter Try.func28, Try.ntmps28
    go_wp2_with (go_at_call 45; refine (c0 _).mono ?_; rintro e w' ⟨rfl, rfl⟩)
    go_ret
    exact ⟨rfl, h0.alloc h0.size _⟩
  · clear c0 c2 c3 d0 d2 d3
    generalize shareI 1 s n = v at *
    go_enter Try.func28, Try.ntmps28
    go_wp2_with (go_at_call 46; refine (c1 _).mono ?_; rintro e w' ⟨rfl, rfl⟩)
    go_ret
    exact ⟨rfl, h0.alloc h0.size _⟩
  · clear c0 c1 c3 d0 d1 d3
    generalize shareI 2 s n = v at *
    go_enter Try.func28, Try.ntmps28
    go_wp2_with (go_at_call 47; refine (c2 _).mono ?_; rintro e w' ⟨rfl, rfl⟩)
    go_ret
    exact ⟨rfl, h0.alloc h0.size _⟩
  · clear c0 c1 c2 d0 d1 d2
    generalize shareI 3 s n = v at *
    go_enter Try.func28, Try.ntmps28
    go_wp2_with (go_at_call 48; refine (c3 _).mono ?_; rintro e w' ⟨rfl, rfl⟩)
    go_ret
    exact ⟨rfl, h0.alloc h0.size _⟩
set_option maxHeartbeats 1000000 in
theorem implEaseOf_any (e s n : Int) (w : World) :
    Calls Try.prog 12 #[.int .i64 e, .int .i64 s, .int .i64 n] w fun r w' => r = .returned (.tuple #[.int .i64 (easV e s n), .int .i64 (easC e s n)]) ∧ Below w.heap.size w w' := by
  unfold easV
  have cE := fun w => isEase_any e w
  have cN := fun w => isStep_any s n w
  have h0 := Below.refl w.heap.size w
  cases h1 : inB e 0 3 with
  | false =>
    have hc : easC e s n = 2 := by unfold easC; rw [h1]; rfl
    rw [h1] at cE
    rw [hc, if_neg (by decide)]
    clear h1 hc
    go_enter Try.func12, Try.ntmps12
    go_wp2_with (go_at_call 22; refine (cE _).mono ?_; rintro e w' ⟨rfl, rfl⟩)
    go_ret2
    exact ⟨rfl, h0⟩
  | true =>
    cases h2 : (inB n 1 200 && inB s 0 n) with
    | false =>
      have hc : easC e s n = 2 := by unfold easC; rw [h1, h2]; rfl
      rw [h1] at cE
      rw [h2] at cN
      rw [hc, if_neg (by decide)]
      clear h1 h2 hc
      go_enter Try.func12, Try.ntmps12
      go_wp2_with (first | (go_at_call 22; refine (cE _).mono ?_; rintro e w' ⟨rfl, rfl⟩) | (go_at_call 27; refine (cN _).mono ?_; rintro e w' ⟨rfl, rfl⟩))
      go_ret2
      exact ⟨rfl, h0⟩
    | true =>
      have hc : easC e s n = 0 := by unfold easC; rw [h1, h2]; rfl
      have h3 := Bool.and_eq_true_iff.1 h2
      have cH := fun w => shareOf_any e s n w (inB_iff.1 h1) (inB_iff.1 h3.2) (inB_iff.1 h3.1)
      rw [h1] at cE
      rw [h2] at cN
      rw [hc, if_pos rfl]
      clear h1 h2 h3 hc
      generalize shareI e s n = v at *
      go_enter Try.func12, Try.ntmps12
      go_wp2_with (first | (go_at_call 22; refine (cE _).mono ?_; rintro e w' ⟨rfl, rfl⟩) | (go_at_call 27; refine (cN _).mono ?_; rintro e w' ⟨rfl, rfl⟩) | (go_at_call 28; refine (cH _).mono ?_; rintro e w' ⟨rfl, hb⟩))
      go_ret2
      exact ⟨rfl, hb⟩
end Go.Proofs.Ytoccklhfiojemab
