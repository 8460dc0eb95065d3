/- The source of what is drawn: next, pick, P6Pick: some number in its bounds. -/
import Derived.Test.YtoccklhfiojemabRows
import Derived.Test.YtoccklhfiojemabL1
import Derived.Test.YtoccklhfiojemabMem
import Derived.Test.YtoccklhfiojemabLI64
import Derived.Deep.QuietTactic
import Derived.Laws.BitsAllLaws
namespace Go.Proofs.Ytoccklhfiojemab
set_option maxRecDepth 100000
open Go.RowKit
set_option linter.unusedVariables false
set_option linter.unusedSimpArgs false
theorem u64_bd (X : Int) : 0 ≤ IntKind.u64.wrap X ∧ IntKind.u64.wrap X < 18446744073709551616 := by
  show 0 ≤ X % 18446744073709551616 ∧ X % 18446744073709551616 < 18446744073709551616
  omega
theorem low8 (a : Int) (h1 : 0 ≤ a) (h2 : a < 18446744073709551616) : 0 ≤ wrap64 (bits BinOp.and IntKind.u64 a 255) ∧ wrap64 (bits BinOp.and IntKind.u64 a 255) ≤ 255 := by
  rw [u64_and _ 255 h1 h2 (by decide) (by decide)]
  have h1 : a.toNat &&& (255 : Int).toNat ≤ 255 := Nat.and_le_right
  generalize a.toNat &&& (255 : Int).toNat = n at *
  rw [IntWalk.wrap64_in _ (by omega)]
  omega
def SR (cv : Value) (at_ seed : Int) : Array Value := #[cv, .int .i64 at_, .int .u64 seed]
set_option maxHeartbeats 2000000 in
theorem next_any (g : Nat) (A : Option Addr) (c : Nat) (B : List Int) (k : Nat) (seed : Int) (w : World) (hB : ∀ i, 0 ≤ B.getD i 0 ∧ B.getD i 0 ≤ 255) (hlen : B.length ≤ 4096) (hk : k ≤ 100000)
    (hr : Row w g 73 (SR (.slice A B.length c) (k : Int) seed)) (h : SlAt (eI .u8) w g (.slice A B.length c) B) :
    Calls Try.prog 44 #[.pointer (some ⟨g, 0, none⟩)] w fun e w' => ∃ x s : Int, (0 ≤ x ∧ x ≤ 255) ∧ e = .returned (.int .i64 x) ∧ Row w' g 73 (SR (.slice A B.length c) ((k + 1 : Nat) : Int) s) ∧ Below g w w' := by
  obtain ⟨A', c', hv, h1, h2, hA⟩ := h
  obtain ⟨rfl, rfl⟩ : A = A' ∧ c = c' := by simpa using hv
  have c0 : w.cell? ⟨g, 0, none⟩ = some (.slice A B.length c) := hr.cell 0
  have c1 : w.cell? ⟨g, 1, none⟩ = some (.int .i64 (k : Int)) := hr.cell 1
  have c2 : w.cell? ⟨g, 2, none⟩ = some (.int .u64 seed) := hr.cell 2
  have f1 := hr.free 1
  have f2 := hr.free 2
  by_cases hlt : k < B.length
  · obtain ⟨b1, o1, rfl, hb1, r1⟩ := hA (by omega)
    have cb := int_cell r1 hlt
    have hx := hB k
    generalize B.getD k 0 = x at *
    have kx : IntKind.i64.wrap x = x := IntWalk.i64_in _ (by omega)
    have hlt' : (k : Int) < (B.length : Int) := by omega
    clear hA r1 hv
    go_enter Try.func44, Try.ntmps44
    go_wp2
    go_quiet (fail)
    go_wp2
    go_quiet (fail)
    go_wp2
    generalize IntKind.u64.wrap (IntKind.u64.wrap (IntKind.u64.wrap (seed * 6364136223846793005) + x) + 1442695040888963407) = s2
    go_quiet (fail)
    go_wp2
    go_ret
    exact ⟨x, s2, hx, rfl, (((hr.drewN _).set 1 (.int .i64 ((k : Int) + 1))).set 2 (.int .u64 s2)).drewN _, below_drewN (((below_drewN (Below.refl g w) _).setCell (p := ⟨g, 1, none⟩) (Nat.le_refl _) (.int .i64 ((k : Int) + 1))).setCell (p := ⟨g, 2, none⟩) (Nat.le_refl _) (.int .u64 s2)) _⟩
  · clear hA hv
    have hlt' : ¬ (k : Int) < (B.length : Int) := by omega
    go_enter Try.func44, Try.ntmps44
    go_wp2
    go_quiet (fail)
    go_wp2
    have hbd := u64_bd (IntKind.u64.wrap (IntKind.u64.wrap (seed * 6364136223846793005)) + 1442695040888963407)
    generalize IntKind.u64.wrap (IntKind.u64.wrap (IntKind.u64.wrap (seed * 6364136223846793005)) + 1442695040888963407) = s2 at *
    go_quiet (fail)
    go_wp2
    have h8 := low8 (s2 / 1099511627776) (by omega) (by omega)
    generalize wrap64 (bits BinOp.and IntKind.u64 (s2 / 1099511627776) 255) = x8 at *
    go_ret
    exact ⟨x8, s2, h8, rfl, (((hr.drewN _).set 1 (.int .i64 ((k : Int) + 1))).set 2 (.int .u64 s2)).drewN _, below_drewN (((below_drewN (Below.refl g w) _).setCell (p := ⟨g, 1, none⟩) (Nat.le_refl _) (.int .i64 ((k : Int) + 1))).setCell (p := ⟨g, 2, none⟩) (Nat.le_refl _) (.int .u64 s2)) _⟩
set_option maxHeartbeats 2000000 in
theorem pick_any (g : Nat) (A : Option Addr) (c : Nat) (B : List Int) (k : Nat) (seed n : Int) (w : World) (hn : 1 ≤ n ∧ n ≤ 60000) (hB : ∀ i, 0 ≤ B.getD i 0 ∧ B.getD i 0 ≤ 255) (hlen : B.length ≤ 4096) (hk : k ≤ 99000)
    (hr : Row w g 73 (SR (.slice A B.length c) (k : Int) seed)) (h : SlAt (eI .u8) w g (.slice A B.length c) B) :
    Calls Try.prog 26 #[.pointer (some ⟨g, 0, none⟩), .int .i64 n] w fun e w' => ∃ (x : Int) (k' : Nat) (s : Int), (0 ≤ x ∧ x < n) ∧ k' ≤ k + 2 ∧ e = .returned (.int .i64 x) ∧ Row w' g 73 (SR (.slice A B.length c) (k' : Int) s) ∧ Below g w w' := by
  have hn1 := hn.1
  have hn2 := hn.2
  by_cases h1 : n ≤ 1
  · obtain rfl : n = 1 := by omega
    go_enter Try.func26, Try.ntmps26
    go_wp2
    go_ret
    exact ⟨0, k, seed, by omega, by omega, rfl, hr, Below.refl _ _⟩
  · have cN := next_any g A c B k seed w hB hlen (by omega) hr h
    have hgt : ¬ n ≤ 1 := h1
    have hz : (n == 0) = false := by simp; omega
    by_cases h2 : 200 < n
    · have cM := fun (s : Int) (w' : World) (hb : Below g w w') (hr' : Row w' g 73 (SR (.slice A B.length c) ((k + 1 : Nat) : Int) s)) => next_any g A c B (k + 1) s w' hB hlen (by omega) hr' (h.below hb)
      go_enter Try.func26, Try.ntmps26
      go_wp2_with fail
      refine cN.mono ?_
      rintro e w1 ⟨x, s, hx, rfl, hr1, hb1⟩
      have hx1 := hx.1
      have hx2 := hx.2
      go_wp2_with fail
      refine (cM s w1 hb1 hr1).mono ?_
      rintro e w2 ⟨y, s', hy, rfl, hr2, hb2⟩
      have hy1 := hy.1
      have hy2 := hy.2
      have hm := Int.emod_nonneg (x * 256 + y) (show n ≠ 0 by omega)
      have hm2 := Int.emod_lt_of_pos (x * 256 + y) (show 0 < n by omega)
      have kw : IntKind.i64.wrap (x * 256 + y) = x * 256 + y := IntWalk.i64_in _ (by omega)
      have hq : 0 ≤ x * 256 + y := by omega
      obtain ⟨q, hqq⟩ : ∃ q, x * 256 + y = q := ⟨_, rfl⟩
      rw [hqq] at hm hm2 kw hq
      obtain ⟨r, hrr⟩ : ∃ r, q % n = r := ⟨_, rfl⟩
      rw [hrr] at hm hm2
      have HR := Lib.hid hrr
      have HQ := Lib.hid hqq
      go_wp2
      go_ret
      exact ⟨q % n, k + 2, s', by omega, by omega, rfl, hr2, hb1.trans hb2⟩
    · go_enter Try.func26, Try.ntmps26
      go_wp2_with fail
      refine cN.mono ?_
      rintro e w1 ⟨x, s, hx, rfl, hr1, hb1⟩
      have hx1 := hx.1
      have hx2 := hx.2
      have hm := Int.emod_nonneg x (show n ≠ 0 by omega)
      have hm2 := Int.emod_lt_of_pos x (show 0 < n by omega)
      obtain ⟨r, hrr⟩ : ∃ r, x % n = r := ⟨_, rfl⟩
      rw [hrr] at hm hm2
      have HR := Lib.hid hrr
      clear hrr
      go_wp2
      go_ret
      exact ⟨x % n, k + 1, s, by rw [HR.out]; exact ⟨hm, hm2⟩, by omega, rfl, hr1, hb1⟩
theorem from_any (A : Option Addr) (n c : Nat) (w : World) : Calls Try.prog 25 #[.slice A n c] w fun e w' => e = .returned (.pointer (some ⟨w.heap.size, 0, none⟩)) ∧ w' = w.alloc (.cells (SR (.slice A n c) 0 0) 73) := by
  have hbl : ∀ w, (Instr.build 73 #[(0, .slice A n c)]).run Try.prog w = .ok (.agg #[.slice A n c, .int .i64 0, .int .u64 0]) w := fun w => by kernel_rfl
  go_enter Try.func25, Try.ntmps25
  go_wp2
  go_ret
  exact ⟨rfl, rfl⟩
/-- What is drawn from the bytes: some number below n. -/
theorem p6Pick_any (v : Value) (B : List Int) (n : Int) (w : World) (hn : 1 ≤ n ∧ n ≤ 60000) (hB : ∀ i, 0 ≤ B.getD i 0 ∧ B.getD i 0 ≤ 255) (hlen : B.length ≤ 4096) (h : SlAt (eI .u8) w w.heap.size v B) :
    Calls Try.prog 11 #[v, .int .i64 n] w fun e w' => ∃ x : Int, (0 ≤ x ∧ x < n) ∧ e = .returned (.int .i64 x) ∧ Below w.heap.size w w' := by
  obtain ⟨A, c, rfl⟩ := h.form
  have cF := from_any A B.length c w
  have r := Row.new w 73 (SR (.slice A B.length c) 0 0)
  have cP := pick_any w.heap.size A c B 0 0 n (w.alloc (.cells (SR (.slice A B.length c) 0 0) 73)) hn hB hlen (by omega) r (h.alloc (Nat.le_refl _) _)
  have hb := (Below.refl w.heap.size w).alloc (Nat.le_refl _) (.cells (SR (.slice A B.length c) 0 0) 73)
  clear h r hB
  go_enter Try.func11, Try.ntmps11
  go_wp2_with fail
  refine cF.mono ?_
  rintro e w' ⟨rfl, rfl⟩
  generalize w.alloc (.cells (SR (.slice A B.length c) 0 0) 73) = w1 at *
  go_wp2_with fail
  refine cP.mono ?_
  rintro e w2 ⟨x, k', s, hx, hk, rfl, hr, hb2⟩
  go_wp2
  go_ret
  exact ⟨x, hx, rfl, hb.trans hb2⟩
end Go.Proofs.Ytoccklhfiojemab
