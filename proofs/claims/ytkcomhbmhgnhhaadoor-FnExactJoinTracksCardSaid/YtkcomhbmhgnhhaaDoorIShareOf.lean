/- EASES, the program: shareOf (a table of functions), EaseOf. -/
import Derived.Test.YtkcomhbmhgnhhaaDoorIEase
namespace Go.Proofs.YtkcomhbmhgnhhaaDoor
set_option maxRecDepth 100000
open Go.RowKit
set_option linter.unusedVariables false
set_option linter.unusedSimpArgs false
set_option maxHeartbeats 1000000 in
theorem shareOf_any (e s n : Int) (w : World) (he : 0 ≤ e ∧ e ≤ 3) (hs : 0 ≤ s ∧ s ≤ n) (hn : 1 ≤ n ∧ n ≤ 200) :
    Calls Tryd.prog 77 #[.int .i64 e, .int .i64 s, .int .i64 n] w fun r w' => r = .returned (.int .i64 (shareI e s n)) ∧ Below w.heap.size w w' := by
  have c0 := fun w => evenShare_any s n w hs hn
  have c1 := fun w => slowInShare_any s n w hs hn
  have c2 := fun w => slowOutShare_any s n w hs hn
  have c3 := fun w => slowBothShare_any s n w hs hn
  have d0 : ∀ w, (callFunc 85 #[.int .i64 s, .int .i64 n]).run Tryd.prog w = .ok (.enter 85 #[.int .i64 s, .int .i64 n]) w := fun w => by kernel_rfl
  have d1 : ∀ w, (callFunc 86 #[.int .i64 s, .int .i64 n]).run Tryd.prog w = .ok (.enter 86 #[.int .i64 s, .int .i64 n]) w := fun w => by kernel_rfl
  have d2 : ∀ w, (callFunc 87 #[.int .i64 s, .int .i64 n]).run Tryd.prog w = .ok (.enter 87 #[.int .i64 s, .int .i64 n]) w := fun w => by kernel_rfl
  have d3 : ∀ w, (callFunc 88 #[.int .i64 s, .int .i64 n]).run Tryd.prog w = .ok (.enter 88 #[.int .i64 s, .int .i64 n]) w := fun w => by kernel_rfl
  have hst : ∀ (k : Nat) a m w, (store a (.func (.func k) #[] #[]) m).run Tryd.prog w = stored Tryd.prog w a (.func (.func k) #[] #[]) m := fun k a m w => run_store Tryd.prog w a _ m rfl
  have h0 := Below.refl w.heap.size w
  have hcases : e = 0 ∨ e = 1 ∨ e = 2 ∨ e = 3 := by omega
  clear he hs hn
  rcases hcases with rfl | rfl | rfl | rfl
  · clear c1 c2 c3 d1 d2 d3
    generalize shareI 0 s n = v at *
    go_enter Tryd.func77, Tryd.ntmps77
    go_wp2_with (go_at_call 85; refine (c0 _).mono ?_; rintro e w' ⟨rfl, rfl⟩)
    go_ret
    exact ⟨rfl, h0.alloc h0.size _⟩
  · clear c0 c2 c3 d0 d2 d3
    generalize shareI 1 s n = v at *
    go_enter Tryd.func77, Tryd.ntmps77
    go_wp2_with (go_at_call 86; refine (c1 _).mono ?_; rintro e w' ⟨rfl, rfl⟩)
    go_ret
    exact ⟨rfl, h0.alloc h0.size _⟩
  · clear c0 c1 c3 d0 d1 d3
    generalize shareI 2 s n = v at *
    go_enter Tryd.func77, Tryd.ntmps77
    go_wp2_with (go_at_call 87; refine (c2 _).mono ?_; rintro e w' ⟨rfl, rfl⟩)
    go_ret
    exact ⟨rfl, h0.alloc h0.size _⟩
  · clear c0 c1 c2 d0 d1 d2
    generalize shareI 3 s n = v at *
    go_enter Tryd.func77, Tryd.ntmps77
    go_wp2_with (go_at_call 88; refine (c3 _).mono ?_; rintro e w' ⟨rfl, rfl⟩)
    go_ret
    exact ⟨rfl, h0.alloc h0.size _⟩
end Go.Proofs.YtkcomhbmhgnhhaaDoor
