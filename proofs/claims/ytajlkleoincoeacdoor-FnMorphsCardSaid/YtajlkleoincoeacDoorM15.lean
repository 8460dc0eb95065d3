import Derived.Test.YtajlkleoincoeacDoorRows
import Derived.Test.YtajlkleoincoeacDoorM14
import Derived.Test.YtajlkleoincoeacDoorM3
import Derived.Test.YtajlkleoincoeacDoorM5
import Derived.Test.YtajlkleoincoeacDoorM6
import Derived.Deep.QuietTactic
import Derived.Laws.BitsAllLaws
import Derived.Test.YtajlkleoincoeacDoorM13
import Derived.Test.YtajlkleoincoeacDoorM4
import Derived.Test.YtajlkleoincoeacDoorM9
/- impl: DifferBy. -/
namespace Go.Proofs.YtajlkleoincoeacDoor
set_option maxRecDepth 100000
open Go.RowKit
set_option linter.unusedVariables false
set_option maxHeartbeats 1000000 in
theorem implDifferBy_any (f g : Nat → Nat) (hf : ∀ k, f k < 65536) (hg : ∀ k, g k < 65536) (w : World) :
    Calls Tryd.prog 31 #[.agg (FC f), .agg (FC g)] w fun e' w' => e' = .returned (.tuple #[.int .i64 (diffV f g), .int .i64 (bothC f g)]) ∧ Below w.heap.size w w' := by
  have b1 := (Blk.new w 26 f).alloc (.cells (FC g) 26)
  have b2 := Blk.new (w.alloc (.cells (FC f) 26)) 26 g
  rw [World.size_alloc] at b2
  have h0 := ((Below.refl w.heap.size w).alloc (Nat.le_refl _) (.cells (FC f) 26)).alloc (by simp) (.cells (FC g) 26)
  have hr : ∀ k, ifC (bothC f g) (unlikeF f g) k < 65536 := fun k => by
    unfold ifC; split
    · exact unlikeF_lt hf hg k
    · exact zeroF_lt k
  have hv : diffV f g = ((popSum (ifC (bothC f g) (unlikeF f g)) 12 : Nat) : Int) := by
    unfold diffV ifC
    split
    · rfl
    · rfl
  have HV := Lib.hid hv
  clear hv
  go_enter Tryd.func31, Tryd.ntmps31
  go_wp2_with (first | (refine wpList_load_fr rfl 26 24 _ rfl _ rfl b1 Tryd.underlying26 (by kernel_rfl) ?_) | (refine wpList_load_fr rfl 26 24 _ rfl _ rfl b2 Tryd.underlying26 (by kernel_rfl) ?_) | (go_at_call 75; refine (ofBoth_any 76 f g (unlikeF f g) hf hg (fun _ => by kernel_rfl) (fun w => unlike_any f g hf hg w) _).mono ?_; rintro e' w1 ⟨rfl, hb1⟩; replace b1 := b1.below hb1 b1.lt; replace b2 := b2.below hb1 b2.lt; replace h0 := grown_below h0 hb1 h0.size; clear hb1) | (refine wpList_store_new (f0 := zeroF) rfl 26 _ _ rfl rfl rfl (by kernel_rfl) ?_; have bw := Blk.new w1 26 (ifC (bothC f g) (unlikeF f g)); replace h0 := h0.alloc h0.size (.cells (FC (ifC (bothC f g) (unlikeF f g))) 26); generalize w1.alloc (.cells (FC (ifC (bothC f g) (unlikeF f g))) 26) = w2 at bw h0 ⊢) | (refine wpList_load_fr rfl 26 24 _ rfl _ rfl bw Tryd.underlying26 (by kernel_rfl) ?_) | (go_at_call 77; refine (count_any _ hr _).mono ?_; rintro e' w3 ⟨rfl, hb1⟩; replace h0 := grown_below h0 hb1 h0.size; clear hb1))
  go_ret2
  exact ⟨by rw [HV.out]; rfl, h0⟩
end Go.Proofs.YtajlkleoincoeacDoor

/- The source of what is drawn: next, pick, P6Pick: some number in its bounds. -/
namespace Go.Proofs.YtajlkleoincoeacDoor
set_option maxRecDepth 100000
open Go.RowKit
set_option linter.unusedVariables false
set_option linter.unusedSimpArgs false
theorem u64_bd (X : Int) : 0 ≤ IntKind.u64.wrap X ∧ IntKind.u64.wrap X < 18446744073709551616 := by
  show 0 ≤ X % 18446744073709551616 ∧ X % 18446744073709551616 < 18446744073709551616
  omega
theorem low8 (a : Int) (h1 : 0 ≤ a) (h2 : a < 18446744073709551616) : 0 ≤ wrap64 (bits BinOp.and IntKind.u64 a 255) ∧ wrap64 (bits BinOp.and IntKind.u64 a 255) ≤ 255 := by
  rw [u64_and _ 255 h1 h2 (by decide) (by decide)]
  have h1 : a.toNat &&& (255 : Int).toNat ≤ 255 := Nat.and_le_right
  generalize a.toNat &&& (255 : Int).toNat = n at *
  rw [IntWalk.wrap64_in _ (by omega)]
  omega
def SR (cv : Value) (at_ seed : Int) : Array Value := #[cv, .int .i64 at_, .int .u64 seed]
set_option maxHeartbeats 2000000 in
theorem next_any (g : Nat) (A : Option Addr) (c : Nat) (B : List Int) (k : Nat) (seed : Int) (w : World) (hB : ∀ i, 0 ≤ B.getD i 0 ∧ B.getD i 0 ≤ 255) (hlen : B.length ≤ 4096) (hk : k ≤ 100000)
    (hr : Row w g 155 (SR (.slice A B.length c) (k : Int) seed)) (h : SlAt (eI .u8) w g (.slice A B.length c) B) :
    Calls Tryd.prog 111 #[.pointer (some ⟨g, 0, none⟩)] w fun e w' => ∃ x s : Int, (0 ≤ x ∧ x ≤ 255) ∧ e = .returned (.int .i64 x) ∧ Row w' g 155 (SR (.slice A B.length c) ((k + 1 : Nat) : Int) s) ∧ Below g w w' := by
  obtain ⟨A', c', hv, h1, h2, hA⟩ := h
  obtain ⟨rfl, rfl⟩ : A = A' ∧ c = c' := by simpa using hv
  have c0 : w.cell? ⟨g, 0, none⟩ = some (.slice A B.length c) := hr.cell 0
  have c1 : w.cell? ⟨g, 1, none⟩ = some (.int .i64 (k : Int)) := hr.cell 1
  have c2 : w.cell? ⟨g, 2, none⟩ = some (.int .u64 seed) := hr.cell 2
  have f1 := hr.free 1
  have f2 := hr.free 2
  by_cases hlt : k < B.length
  · obtain ⟨b1, o1, rfl, hb1, r1⟩ := hA (by omega)
    have cb := int_cell r1 hlt
    have hx := hB k
    generalize B.getD k 0 = x at *
    have kx : IntKind.i64.wrap x = x := IntWalk.i64_in _ (by omega)
    have hlt' : (k : Int) < (B.length : Int) := by omega
    clear hA r1 hv
    go_enter Tryd.func111, Tryd.ntmps111
    go_wp2
    go_quiet (fail)
    go_wp2
    go_quiet (fail)
    go_wp2
    generalize IntKind.u64.wrap (IntKind.u64.wrap (IntKind.u64.wrap (seed * 6364136223846793005) + x) + 1442695040888963407) = s2
    go_quiet (fail)
    go_wp2
    go_ret
    exact ⟨x, s2, hx, rfl, (((hr.drewN _).set 1 (.int .i64 ((k : Int) + 1))).set 2 (.int .u64 s2)).drewN _, below_drewN (((below_drewN (Below.refl g w) _).setCell (p := ⟨g, 1, none⟩) (Nat.le_refl _) (.int .i64 ((k : Int) + 1))).setCell (p := ⟨g, 2, none⟩) (Nat.le_refl _) (.int .u64 s2)) _⟩
  · clear hA hv
    have hlt' : ¬ (k : Int) < (B.length : Int) := by omega
    go_enter Tryd.func111, Tryd.ntmps111
    go_wp2
    go_quiet (fail)
    go_wp2
    have hbd := u64_bd (IntKind.u64.wrap (IntKind.u64.wrap (seed * 6364136223846793005)) + 1442695040888963407)
    generalize IntKind.u64.wrap (IntKind.u64.wrap (IntKind.u64.wrap (seed * 6364136223846793005)) + 1442695040888963407) = s2 at *
    go_quiet (fail)
    go_wp2
    have h8 := low8 (s2 / 1099511627776) (by omega) (by omega)
    generalize wrap64 (bits BinOp.and IntKind.u64 (s2 / 1099511627776) 255) = x8 at *
    go_ret
    exact ⟨x8, s2, h8, rfl, (((hr.drewN _).set 1 (.int .i64 ((k : Int) + 1))).set 2 (.int .u64 s2)).drewN _, below_drewN (((below_drewN (Below.refl g w) _).setCell (p := ⟨g, 1, none⟩) (Nat.le_refl _) (.int .i64 ((k : Int) + 1))).setCell (p := ⟨g, 2, none⟩) (Nat.le_refl _) (.int .u64 s2)) _⟩
set_option maxHeartbeats 2000000 in
theorem pick_any (g : Nat) (A : Option Addr) (c : Nat) (B : List Int) (k : Nat) (seed n : Int) (w : World) (hn : 1 ≤ n ∧ n ≤ 60000) (hB : ∀ i, 0 ≤ B.getD i 0 ∧ B.getD i 0 ≤ 255) (hlen : B.length ≤ 4096) (hk : k ≤ 99000)
    (hr : Row w g 155 (SR (.slice A B.length c) (k : Int) seed)) (h : SlAt (eI .u8) w g (.slice A B.length c) B) :
    Calls Tryd.prog 67 #[.pointer (some ⟨g, 0, none⟩), .int .i64 n] w fun e w' => ∃ (x : Int) (k' : Nat) (s : Int), (0 ≤ x ∧ x < n) ∧ k' ≤ k + 2 ∧ e = .returned (.int .i64 x) ∧ Row w' g 155 (SR (.slice A B.length c) (k' : Int) s) ∧ Below g w w' := by
  have hn1 := hn.1
  have hn2 := hn.2
  by_cases h1 : n ≤ 1
  · obtain rfl : n = 1 := by omega
    go_enter Tryd.func67, Tryd.ntmps67
    go_wp2
    go_ret
    exact ⟨0, k, seed, by omega, by omega, rfl, hr, Below.refl _ _⟩
  · have cN := next_any g A c B k seed w hB hlen (by omega) hr h
    have hgt : ¬ n ≤ 1 := h1
    have hz : (n == 0) = false := by simp; omega
    by_cases h2 : 200 < n
    · have cM := fun (s : Int) (w' : World) (hb : Below g w w') (hr' : Row w' g 155 (SR (.slice A B.length c) ((k + 1 : Nat) : Int) s)) => next_any g A c B (k + 1) s w' hB hlen (by omega) hr' (h.below hb)
      go_enter Tryd.func67, Tryd.ntmps67
      go_wp2_with fail
      refine cN.mono ?_
      rintro e w1 ⟨x, s, hx, rfl, hr1, hb1⟩
      have hx1 := hx.1
      have hx2 := hx.2
      go_wp2_with fail
      refine (cM s w1 hb1 hr1).mono ?_
      rintro e w2 ⟨y, s', hy, rfl, hr2, hb2⟩
      have hy1 := hy.1
      have hy2 := hy.2
      have hm := Int.emod_nonneg (x * 256 + y) (show n ≠ 0 by omega)
      have hm2 := Int.emod_lt_of_pos (x * 256 + y) (show 0 < n by omega)
      have kw : IntKind.i64.wrap (x * 256 + y) = x * 256 + y := IntWalk.i64_in _ (by omega)
      have hq : 0 ≤ x * 256 + y := by omega
      obtain ⟨q, hqq⟩ : ∃ q, x * 256 + y = q := ⟨_, rfl⟩
      rw [hqq] at hm hm2 kw hq
      obtain ⟨r, hrr⟩ : ∃ r, q % n = r := ⟨_, rfl⟩
      rw [hrr] at hm hm2
      have HR := Lib.hid hrr
      have HQ := Lib.hid hqq
      go_wp2
      go_ret
      exact ⟨q % n, k + 2, s', by omega, by omega, rfl, hr2, hb1.trans hb2⟩
    · go_enter Tryd.func67, Tryd.ntmps67
      go_wp2_with fail
      refine cN.mono ?_
      rintro e w1 ⟨x, s, hx, rfl, hr1, hb1⟩
      have hx1 := hx.1
      have hx2 := hx.2
      have hm := Int.emod_nonneg x (show n ≠ 0 by omega)
      have hm2 := Int.emod_lt_of_pos x (show 0 < n by omega)
      obtain ⟨r, hrr⟩ : ∃ r, x % n = r := ⟨_, rfl⟩
      rw [hrr] at hm hm2
      have HR := Lib.hid hrr
      clear hrr
      go_wp2
      go_ret
      exact ⟨x % n, k + 1, s, by rw [HR.out]; exact ⟨hm, hm2⟩, by omega, rfl, hr1, hb1⟩
theorem from_any (A : Option Addr) (n c : Nat) (w : World) : Calls Tryd.prog 66 #[.slice A n c] w fun e w' => e = .returned (.pointer (some ⟨w.heap.size, 0, none⟩)) ∧ w' = w.alloc (.cells (SR (.slice A n c) 0 0) 155) := by
  have hbl : ∀ w, (Instr.build 155 #[(0, .slice A n c)]).run Tryd.prog w = .ok (.agg #[.slice A n c, .int .i64 0, .int .u64 0]) w := fun w => by kernel_rfl
  go_enter Tryd.func66, Tryd.ntmps66
  go_wp2
  go_ret
  exact ⟨rfl, rfl⟩
/-- What is drawn from the bytes: some number below n. -/
theorem p6Pick_any (v : Value) (B : List Int) (n : Int) (w : World) (hn : 1 ≤ n ∧ n ≤ 60000) (hB : ∀ i, 0 ≤ B.getD i 0 ∧ B.getD i 0 ≤ 255) (hlen : B.length ≤ 4096) (h : SlAt (eI .u8) w w.heap.size v B) :
    Calls Tryd.prog 28 #[v, .int .i64 n] w fun e w' => ∃ x : Int, (0 ≤ x ∧ x < n) ∧ e = .returned (.int .i64 x) ∧ Below w.heap.size w w' := by
  obtain ⟨A, c, rfl⟩ := h.form
  have cF := from_any A B.length c w
  have r := Row.new w 155 (SR (.slice A B.length c) 0 0)
  have cP := pick_any w.heap.size A c B 0 0 n (w.alloc (.cells (SR (.slice A B.length c) 0 0) 155)) hn hB hlen (by omega) r (h.alloc (Nat.le_refl _) _)
  have hb := (Below.refl w.heap.size w).alloc (Nat.le_refl _) (.cells (SR (.slice A B.length c) 0 0) 155)
  clear h r hB
  go_enter Tryd.func28, Tryd.ntmps28
  go_wp2_with fail
  refine cF.mono ?_
  rintro e w' ⟨rfl, rfl⟩
  generalize w.alloc (.cells (SR (.slice A B.length c) 0 0) 155) = w1 at *
  go_wp2_with fail
  refine cP.mono ?_
  rintro e w2 ⟨x, k', s, hx, hk, rfl, hr, hb2⟩
  go_wp2
  go_ret
  exact ⟨x, hx, rfl, hb.trans hb2⟩
end Go.Proofs.YtajlkleoincoeacDoor

/- THE SOURCE OF WHAT IS DRAWN, and what a draw leaves as it was: next, pick, one; a valid frame is drawn. -/
namespace Go.Proofs.YtajlkleoincoeacDoor
set_option maxRecDepth 100000
open Go.RowKit
set_option linter.unusedVariables false
set_option linter.unusedSimpArgs false
theorem wrote_drewN {B : Nat} {a w : World} (h : Wrote B a w) (n : Nat) : Wrote B a (w.drewN n) := ⟨h.os, h.tape, h.output, h.size, h.block⟩
theorem wrote_low {g : Nat} {w w' : World} (k : Wrote g w w') (hg : g ≤ w.heap.size) : Below g w w' := ⟨k.os, k.tape, k.output, k.size, fun i hi => k.block i (by omega) (by omega)⟩
/-- What has been written lies in a block of the call's own. -/
theorem Wrote.own {g b : Nat} {w a c : World} (h : Wrote g w a) (k : Wrote b a c) (hb : w.heap.size ≤ b) : Wrote g w c :=
  ⟨k.os.trans h.os, k.tape.trans h.tape, k.output.trans h.output, Nat.le_trans h.size k.size, fun i hi hn => (k.block i (Nat.lt_of_lt_of_le hi h.size) (by omega)).trans (h.block i hi hn)⟩
theorem Wrote.alloc {g : Nat} {w a : World} (h : Wrote g w a) (o : Obj) : Wrote g w (a.alloc o) :=
  ⟨h.os, h.tape, h.output, by have := h.size; simp; omega, fun i hi hn => (Below.heap_alloc a o i (Nat.lt_of_lt_of_le hi h.size)).trans (h.block i hi hn)⟩
theorem Wrote.belowTo {g : Nat} {w a c : World} (h : Wrote g w a) (k : Below a.heap.size a c) : Wrote g w c :=
  ⟨k.os.trans h.os, k.tape.trans h.tape, k.output.trans h.output, Nat.le_trans h.size k.size, fun i hi hn => (k.block i (Nat.lt_of_lt_of_le hi h.size)).trans (h.block i hi hn)⟩
set_option maxHeartbeats 2000000 in
theorem next_w (g : Nat) (A : Option Addr) (c : Nat) (B : List Int) (k : Nat) (seed : Int) (w : World) (hB : ∀ i, 0 ≤ B.getD i 0 ∧ B.getD i 0 ≤ 255) (hlen : B.length ≤ 4096) (hk : k ≤ 100000)
    (hr : Row w g 155 (SR (.slice A B.length c) (k : Int) seed)) (h : SlAt (eI .u8) w g (.slice A B.length c) B) :
    Calls Tryd.prog 111 #[.pointer (some ⟨g, 0, none⟩)] w fun e w' => ∃ x s : Int, (0 ≤ x ∧ x ≤ 255) ∧ e = .returned (.int .i64 x) ∧ Row w' g 155 (SR (.slice A B.length c) ((k + 1 : Nat) : Int) s) ∧ Wrote g w w' := by
  obtain ⟨A', c', hv, h1, h2, hA⟩ := h
  obtain ⟨rfl, rfl⟩ : A = A' ∧ c = c' := by simpa using hv
  have c0 : w.cell? ⟨g, 0, none⟩ = some (.slice A B.length c) := hr.cell 0
  have c1 : w.cell? ⟨g, 1, none⟩ = some (.int .i64 (k : Int)) := hr.cell 1
  have c2 : w.cell? ⟨g, 2, none⟩ = some (.int .u64 seed) := hr.cell 2
  have f1 := hr.free 1
  have f2 := hr.free 2
  by_cases hlt : k < B.length
  · obtain ⟨b1, o1, rfl, hb1, r1⟩ := hA (by omega)
    have cb := int_cell r1 hlt
    have hx := hB k
    generalize B.getD k 0 = x at *
    have kx : IntKind.i64.wrap x = x := IntWalk.i64_in _ (by omega)
    have hlt' : (k : Int) < (B.length : Int) := by omega
    clear hA r1 hv
    go_enter Tryd.func111, Tryd.ntmps111
    go_wp2
    go_quiet (fail)
    go_wp2
    go_quiet (fail)
    go_wp2
    generalize IntKind.u64.wrap (IntKind.u64.wrap (IntKind.u64.wrap (seed * 6364136223846793005) + x) + 1442695040888963407) = s2
    go_quiet (fail)
    go_wp2
    go_ret
    exact ⟨x, s2, hx, rfl, (((hr.drewN _).set 1 (.int .i64 ((k : Int) + 1))).set 2 (.int .u64 s2)).drewN _, wrote_drewN (((wrote_drewN (Wrote.refl g w) _).setCell (p := ⟨g, 1, none⟩) rfl (.int .i64 ((k : Int) + 1))).setCell (p := ⟨g, 2, none⟩) rfl (.int .u64 s2)) _⟩
  · clear hA hv
    have hlt' : ¬ (k : Int) < (B.length : Int) := by omega
    go_enter Tryd.func111, Tryd.ntmps111
    go_wp2
    go_quiet (fail)
    go_wp2
    have hbd := u64_bd (IntKind.u64.wrap (IntKind.u64.wrap (seed * 6364136223846793005)) + 1442695040888963407)
    generalize IntKind.u64.wrap (IntKind.u64.wrap (IntKind.u64.wrap (seed * 6364136223846793005)) + 1442695040888963407) = s2 at *
    go_quiet (fail)
    go_wp2
    have h8 := low8 (s2 / 1099511627776) (by omega) (by omega)
    generalize wrap64 (bits BinOp.and IntKind.u64 (s2 / 1099511627776) 255) = x8 at *
    go_ret
    exact ⟨x8, s2, h8, rfl, (((hr.drewN _).set 1 (.int .i64 ((k : Int) + 1))).set 2 (.int .u64 s2)).drewN _, wrote_drewN (((wrote_drewN (Wrote.refl g w) _).setCell (p := ⟨g, 1, none⟩) rfl (.int .i64 ((k : Int) + 1))).setCell (p := ⟨g, 2, none⟩) rfl (.int .u64 s2)) _⟩
set_option maxHeartbeats 2000000 in
theorem pick_w (g : Nat) (A : Option Addr) (c : Nat) (B : List Int) (k : Nat) (seed n : Int) (w : World) (hn : 1 ≤ n ∧ n ≤ 60000) (hB : ∀ i, 0 ≤ B.getD i 0 ∧ B.getD i 0 ≤ 255) (hlen : B.length ≤ 4096) (hk : k ≤ 99000)
    (hr : Row w g 155 (SR (.slice A B.length c) (k : Int) seed)) (h : SlAt (eI .u8) w g (.slice A B.length c) B) :
    Calls Tryd.prog 67 #[.pointer (some ⟨g, 0, none⟩), .int .i64 n] w fun e w' => ∃ (x : Int) (k' : Nat) (s : Int), (0 ≤ x ∧ x < n) ∧ k' ≤ k + 2 ∧ e = .returned (.int .i64 x) ∧ Row w' g 155 (SR (.slice A B.length c) (k' : Int) s) ∧ Wrote g w w' := by
  have hn1 := hn.1
  have hn2 := hn.2
  by_cases h1 : n ≤ 1
  · obtain rfl : n = 1 := by omega
    go_enter Tryd.func67, Tryd.ntmps67
    go_wp2
    go_ret
    exact ⟨0, k, seed, by omega, by omega, rfl, hr, Wrote.refl _ _⟩
  · have cN := next_w g A c B k seed w hB hlen (by omega) hr h
    have hgt : ¬ n ≤ 1 := h1
    have hz : (n == 0) = false := by simp; omega
    by_cases h2 : 200 < n
    · have cM := fun (s : Int) (w' : World) (hb : Wrote g w w') (hr' : Row w' g 155 (SR (.slice A B.length c) ((k + 1 : Nat) : Int) s)) => next_w g A c B (k + 1) s w' hB hlen (by omega) hr' (h.below (wrote_low hb (Nat.le_of_lt hr.lt)))
      go_enter Tryd.func67, Tryd.ntmps67
      go_wp2_with fail
      refine cN.mono ?_
      rintro e w1 ⟨x, s, hx, rfl, hr1, hb1⟩
      have hx1 := hx.1
      have hx2 := hx.2
      go_wp2_with fail
      refine (cM s w1 hb1 hr1).mono ?_
      rintro e w2 ⟨y, s', hy, rfl, hr2, hb2⟩
      have hy1 := hy.1
      have hy2 := hy.2
      have hm := Int.emod_nonneg (x * 256 + y) (show n ≠ 0 by omega)
      have hm2 := Int.emod_lt_of_pos (x * 256 + y) (show 0 < n by omega)
      have kw : IntKind.i64.wrap (x * 256 + y) = x * 256 + y := IntWalk.i64_in _ (by omega)
      have hq : 0 ≤ x * 256 + y := by omega
      obtain ⟨q, hqq⟩ : ∃ q, x * 256 + y = q := ⟨_, rfl⟩
      rw [hqq] at hm hm2 kw hq
      obtain ⟨r, hrr⟩ : ∃ r, q % n = r := ⟨_, rfl⟩
      rw [hrr] at hm hm2
      have HR := Lib.hid hrr
      have HQ := Lib.hid hqq
      go_wp2
      go_ret
      exact ⟨q % n, k + 2, s', by omega, by omega, rfl, hr2, hb1.trans hb2⟩
    · go_enter Tryd.func67, Tryd.ntmps67
      go_wp2_with fail
      refine cN.mono ?_
      rintro e w1 ⟨x, s, hx, rfl, hr1, hb1⟩
      have hx1 := hx.1
      have hx2 := hx.2
      have hm := Int.emod_nonneg x (show n ≠ 0 by omega)
      have hm2 := Int.emod_lt_of_pos x (show 0 < n by omega)
      obtain ⟨r, hrr⟩ : ∃ r, x % n = r := ⟨_, rfl⟩
      rw [hrr] at hm hm2
      have HR := Lib.hid hrr
      clear hrr
      go_wp2
      go_ret
      exact ⟨x % n, k + 1, s, by rw [HR.out]; exact ⟨hm, hm2⟩, by omega, rfl, hr1, hb1⟩
/-- The source, so many bytes taken at most. -/
def SrcAt (g : Nat) (cv : Value) (m : Nat) (w : World) : Prop := ∃ (k : Nat) (s : Int), k ≤ m ∧ Row w g 155 (SR cv (k : Int) s)
theorem SrcAt.lt {g m : Nat} {cv : Value} {w : World} (h : SrcAt g cv m w) : g < w.heap.size := by obtain ⟨_, _, _, h⟩ := h; exact h.lt
theorem SrcAt.mono {g m m' : Nat} {cv : Value} {w : World} (h : SrcAt g cv m w) (hm : m ≤ m') : SrcAt g cv m' w := by obtain ⟨k, s, h1, h2⟩ := h; exact ⟨k, s, by omega, h2⟩
theorem SrcAt.wrote {g b m : Nat} {cv : Value} {w w' : World} (h : SrcAt g cv m w) (k : Wrote b w w') (hn : g ≠ b) : SrcAt g cv m w' := by obtain ⟨q, s, h1, h2⟩ := h; exact ⟨q, s, h1, k.row h2 hn⟩
theorem SrcAt.alloc {g m : Nat} {cv : Value} {w : World} (h : SrcAt g cv m w) (o : Obj) : SrcAt g cv m (w.alloc o) := by obtain ⟨q, s, h1, h2⟩ := h; exact ⟨q, s, h1, h2.alloc o⟩
theorem pickS_any (g : Nat) (A : Option Addr) (c : Nat) (B : List Int) (m : Nat) (n : Int) (w : World) (hn : 1 ≤ n ∧ n ≤ 60000) (hB : ∀ i, 0 ≤ B.getD i 0 ∧ B.getD i 0 ≤ 255) (hlen : B.length ≤ 4096) (hm : m ≤ 99000)
    (hr : SrcAt g (.slice A B.length c) m w) (h : SlAt (eI .u8) w g (.slice A B.length c) B) :
    Calls Tryd.prog 67 #[.pointer (some ⟨g, 0, none⟩), .int .i64 n] w fun e w' => ∃ x : Nat, (x : Int) < n ∧ e = .returned (.int .i64 x) ∧ SrcAt g (.slice A B.length c) (m + 2) w' ∧ Wrote g w w' := by
  obtain ⟨k, s, hk, hr⟩ := hr
  refine (pick_w g A c B k s n w hn hB hlen (by omega) hr h).mono ?_
  rintro e w' ⟨x, k', s', hx, hk', rfl, hr', hw⟩
  obtain ⟨q, rfl⟩ := Int.eq_ofNat_of_zero_le hx.1
  exact ⟨q, hx.2, rfl, ⟨k', s', by omega, hr'⟩, hw⟩
theorem oneS_any (g : Nat) (A : Option Addr) (c : Nat) (B : List Int) (m : Nat) (n : Int) (w : World) (hn : 1 ≤ n ∧ n ≤ 60000) (hB : ∀ i, 0 ≤ B.getD i 0 ∧ B.getD i 0 ≤ 255) (hlen : B.length ≤ 4096) (hm : m ≤ 99000)
    (hr : SrcAt g (.slice A B.length c) m w) (h : SlAt (eI .u8) w g (.slice A B.length c) B) :
    Calls Tryd.prog 110 #[.pointer (some ⟨g, 0, none⟩), .int .i64 n] w fun e w' => ∃ b : Bool, e = .returned (.bool b) ∧ SrcAt g (.slice A B.length c) (m + 2) w' ∧ Wrote g w w' := by
  have cP := pickS_any g A c B m n w hn hB hlen hm hr h
  clear hr h hB
  go_enter Tryd.func110, Tryd.ntmps110
  go_wp2_with fail
  refine cP.mono ?_
  rintro e w1 ⟨x, hx, rfl, hs, hw⟩
  go_wp2
  go_ret
  exact ⟨_, rfl, hs, hw⟩
end Go.Proofs.YtajlkleoincoeacDoor

/- A VALID FRAME IS DRAWN: l01Drawn, P6Frame. -/
namespace Go.Proofs.YtajlkleoincoeacDoor
set_option maxRecDepth 100000
open Go.RowKit
set_option linter.unusedVariables false
set_option linter.unusedSimpArgs false
/-- What is known while a frame is drawn. -/
def DSt (g fb R : Nat) (A : Option Addr) (c : Nat) (B : List Int) (m : Nat) (w0 : World) (f : Nat → Nat) (w : World) : Prop :=
  (SrcAt g (.slice A B.length c) m w ∧ Wrote g w0 w ∧ SlAt (eI .u8) w g (.slice A B.length c) B) ∧ (Blk w fb 26 f ∧ Blk w R 26 zeroF) ∧ (g < fb ∧ g < R ∧ R ≠ fb ∧ w0.heap.size ≤ fb ∧ w0.heap.size ≤ R)
theorem DSt.pick {g fb R m m' : Nat} {A : Option Addr} {c : Nat} {B : List Int} {w0 w w' : World} {f : Nat → Nat} (h : DSt g fb R A c B m w0 f w) (hs : SrcAt g (.slice A B.length c) m' w') (k : Wrote g w w') : DSt g fb R A c B m' w0 f w' := by
  obtain ⟨⟨h1, h2, h3⟩, ⟨h4, h5⟩, h6⟩ := h
  exact ⟨⟨hs, h2.trans k, h3.below (wrote_low k (Nat.le_of_lt h1.lt))⟩, ⟨k.blk h4 (by omega), k.blk h5 (by omega)⟩, h6⟩
theorem DSt.put {g fb R m : Nat} {A : Option Addr} {c : Nat} {B : List Int} {w0 w w' : World} {f f' : Nat → Nat} (h : DSt g fb R A c B m w0 f w) (hb : Blk w' fb 26 f') (k : Wrote fb w w') : DSt g fb R A c B m w0 f' w' := by
  obtain ⟨⟨h1, h2, h3⟩, ⟨h4, h5⟩, h6⟩ := h
  exact ⟨⟨h1.wrote k (by omega), h2.own k h6.2.2.2.1, h3.below (wrote_low k (Nat.le_of_lt h4.lt) |>.mono (by omega))⟩, ⟨hb, k.blk h5 h6.2.2.1⟩, h6⟩
theorem DSt.mono {g fb R m m' : Nat} {A : Option Addr} {c : Nat} {B : List Int} {w0 w : World} {f : Nat → Nat} (h : DSt g fb R A c B m w0 f w) (hm : m ≤ m') : DSt g fb R A c B m' w0 f w := ⟨⟨h.1.1.mono hm, h.1.2⟩, h.2⟩
theorem DSt.drew {g fb R m : Nat} {A : Option Addr} {c : Nat} {B : List Int} {w0 w : World} {f : Nat → Nat} (h : DSt g fb R A c B m w0 f w) : DSt g fb R A c B m w0 f w.drew :=
  ⟨⟨by obtain ⟨k, s, h1, h2⟩ := h.1.1; exact ⟨k, s, h1, h2⟩, h.1.2.1.drew, h.1.2.2⟩, h.2⟩
theorem putF_4096 {f : Nat → Nat} (h : ∀ q, f q < 4096) (x y : Int) (q : Nat) : putF f x y q < 4096 := by
  unfold putF
  split
  · rename_i hp
    have := plB_iff.1 hp
    unfold upd
    split
    · exact Nat.or_lt_two_pow (n := 12) (h _) (Nat.pow_lt_pow_right (by decide) (by omega))
    · exact h q
  · exact h q
theorem upd_4096 {f : Nat → Nat} (h : ∀ q, f q < 4096) (k : Nat) {p : Nat} (hp : p < 4096) (q : Nat) : upd f k (f k ||| p) q < 4096 := by
  unfold upd
  split
  · exact Nat.or_lt_two_pow (n := 12) (h _) hp
  · exact h q
theorem wrote_setRow (g : Nat) (w : World) (cs : Array Value) : Wrote g w (w.setRow g cs) := by
  have h := below_setRow (B := 0) (Below.refl 0 w) (Nat.zero_le g) cs
  exact ⟨h.os, h.tape, h.output, h.size, fun i hi hn => by
    simp only [World.setRow]
    exact setRow_other w g i cs hn⟩
/-- A row changed in one place. -/
theorem blk_cell {w : World} {g : Nat} {t : TypeId} {f : Nat → Nat} (h : Blk w g t f) {k : Nat} (hk : k < 12) (v : Nat) : Blk (w.setCell ⟨g, k, none⟩ (.int .u16 v)) g t (upd f k v) := by
  unfold Blk
  rw [← FC_set f v hk]
  exact Row.set h k (.int .u16 v)
set_option maxHeartbeats 8000000 in
theorem drawn_any (g : Nat) (A : Option Addr) (c : Nat) (B : List Int) (m : Nat) (w : World) (hB : ∀ i, 0 ≤ B.getD i 0 ∧ B.getD i 0 ≤ 255) (hlen : B.length ≤ 4096) (hm : m ≤ 1000)
    (hr : SrcAt g (.slice A B.length c) m w) (h : SlAt (eI .u8) w g (.slice A B.length c) B) :
    Calls Tryd.prog 65 #[.pointer (some ⟨g, 0, none⟩)] w fun e w' => ∃ f : Nat → Nat, (∀ k, f k < 4096) ∧ e = .returned (.agg (FC f)) ∧ SrcAt g (.slice A B.length c) (m + 200) w' ∧ Wrote g w w' := by
  have hbl : ∀ w, (Instr.build 26 #[]).run Tryd.prog w = .ok (.agg (FC zeroF)) w := build_fr
  have hg := hr.lt
  have bR := (Blk.new w 26 zeroF).alloc (.cells (FC zeroF) 26)
  have bF := Blk.new (w.alloc (.cells (FC zeroF) 26)) 26 zeroF
  rw [World.size_alloc] at bF
  have h0 : DSt g (w.heap.size + 1) w.heap.size A c B m w zeroF ((w.alloc (.cells (FC zeroF) 26)).alloc (.cells (FC zeroF) 26)) :=
    ⟨⟨(hr.alloc _).alloc _, ((Wrote.refl g w).alloc _).alloc _, (h.alloc (by omega) _).alloc (by simp; omega) _⟩, ⟨bF, bR⟩, by omega⟩
  rw [FC_zero] at h0
  clear bR bF hr h
  have cP := fun (n : Int) (hn : 1 ≤ n ∧ n ≤ 60000) (m' : Nat) (hm' : m' ≤ 99000) (f : Nat → Nat) (w' : World) (hd : DSt g (w.heap.size + 1) w.heap.size A c B m' w f w') => pickS_any g A c B m' n w' hn hB hlen hm' hd.1.1 hd.1.2.2
  have cO := fun (m' : Nat) (hm' : m' ≤ 99000) (f : Nat → Nat) (w' : World) (hd : DSt g (w.heap.size + 1) w.heap.size A c B m' w f w') => oneS_any g A c B m' 8 w' (by omega) hB hlen hm' hd.1.1 hd.1.2.2
  have CP := Lib.hid cP
  have CO := Lib.hid cO
  clear cP cO hB
  go_enter Tryd.func65, Tryd.ntmps65
  go_wp2_with (refine wpList_store_new (f0 := zeroF) (f := zeroF) rfl 26 _ _ rfl rfl rfl (by kernel_rfl) ?_)
  clear hbl
  try rw [FC_zero]
  generalize ((w.alloc _).alloc _) = w1 at *
  refine (CP.out 12 (by omega) m (by omega) zeroF _ h0).mono ?_
  rintro e w2 ⟨x0, hx0, rfl, hs, hk⟩
  replace h0 := h0.pick hs hk
  clear hs hk
  go_wp2_with fail
  refine (CP.out 12 (by omega) _ (by omega) zeroF _ h0).mono ?_
  rintro e w3 ⟨y0, hy0, rfl, hs, hk⟩
  replace h0 := h0.pick hs hk
  clear hs hk
  go_wp2_with fail
  refine (CP.out 14 (by omega) _ (by omega) zeroF _ h0).mono ?_
  rintro e w4 ⟨n0, hn0, rfl, hs, hk⟩
  replace h0 := h0.pick hs hk
  clear hs hk
  go_wp2_with fail
  go_loopw [4, 5, 6] (fun u q i wr => ∃ (x y j n : Nat) (f : Nat → Nat), x < 12 ∧ y < 12 ∧ n + j ≤ 13 ∧ u = .int .i64 x ∧ q = .int .i64 y ∧ i = .int .i64 n ∧ (∀ p, f p < 4096) ∧ DSt g (w.heap.size + 1) w.heap.size A c B (m + 6 + 6 * j) w f wr) (fun _ _ i _ => (intOf i).toNat)
  case atStart => exact ⟨x0, y0, 0, n0, zeroF, by omega, by omega, by omega, rfl, rfl, rfl, fun _ => by unfold zeroF; decide, h0.mono (by omega)⟩
  case round =>
    clear h0
    obtain ⟨x, y, j, n, f, hx, hy, hnj, rfl, rfl, rfl, hf, hd⟩ := hrel
    have HF := Lib.hid hf
    by_cases hn : 0 < n
    · have hgt : (0 : Int) < (n : Int) := by omega
      have cPut := put_any (w.heap.size + 1) f x y wr (fun q => Nat.lt_trans (hf q) (by decide)) hd.2.1.1
      have hf2 := putF_4096 hf x y
      have kx : IntKind.i64.wrap ((x : Int) + 1) = (x : Int) + 1 := IntWalk.i64_in _ (by omega)
      have kn : IntKind.i64.wrap ((n : Int) - 1) = ((n - 1 : Nat) : Int) := by rw [IntWalk.i64_in _ (by omega)]; omega
      obtain ⟨x9, hx9, h9⟩ : ∃ x9 : Nat, (x + 1) % 12 = x9 ∧ x9 < 12 := ⟨_, rfl, Nat.mod_lt _ (by decide)⟩
      have tx : ((x : Int) + 1).tmod 12 = (x9 : Int) := by rw [Int.tmod_eq_emod_of_nonneg (by omega)]; omega
      have ex : ((x : Int) + 1) % 12 = (x9 : Int) := by omega
      clear hx9
      have HN := Lib.hid (show n - 1 + (j + 1) ≤ 13 by omega)
      have hn1 : n - 1 < n := by omega
      have hnn : ((n : Int) - 1) = ((n - 1 : Nat) : Int) := by omega
      clear hf hn
      go_wp2_with fail
      refine cPut.mono ?_
      rintro e w5 ⟨rfl, hk5, hb5⟩
      replace hd := hd.put hb5 hk5
      clear hb5 hk5 cPut
      generalize putF f x y = f1 at *
      have HF1 := Lib.hid hf2
      clear hf2 HF
      go_wp2_with fail
      refine (CP.out 6 (by omega) _ (by omega) f1 _ hd).mono ?_
      rintro e w6 ⟨p, hp, rfl, hs, hk⟩
      replace hd := hd.pick hs hk
      clear hs hk
      rcases (show p = 0 ∨ p = 1 ∨ p = 2 ∨ 3 ≤ p by omega) with rfl | rfl | rfl | hp3
      · go_wp2_with fail
        refine (CP.out 12 (by omega) _ (by omega) f1 _ hd).mono ?_
        rintro e w7 ⟨x2, hx2, rfl, hs, hk⟩
        replace hd := hd.pick hs hk
        clear hs hk
        go_wp2_with fail
        refine (CP.out 12 (by omega) _ (by omega) f1 _ hd).mono ?_
        rintro e w8 ⟨y2, hy2, rfl, hs, hk⟩
        replace hd := hd.pick hs hk
        clear hs hk
        go_wp2
        go_roundw
        case rel =>
          go_light
          exact ⟨x2, y2, j + 1, n - 1, f1, by omega, by omega, by have := HN.out; omega, by trivial, by trivial, by first | trivial | rw [hnn], HF1.out, hd.mono (by omega)⟩
        case measure => simp [intOf]; omega
      · go_wp2
        go_roundw
        case rel =>
          go_light
          exact ⟨x9, y, j + 1, n - 1, f1, h9, by omega, by have := HN.out; omega, by first | trivial | rw [ex], by trivial, by first | trivial | rw [hnn], HF1.out, hd.mono (by omega)⟩
        case measure => simp [intOf]; omega
      · go_wp2
        go_roundw
        case rel =>
          go_light
          exact ⟨x9, y, j + 1, n - 1, f1, h9, by omega, by have := HN.out; omega, by first | trivial | rw [ex], by trivial, by first | trivial | rw [hnn], HF1.out, hd.mono (by omega)⟩
        case measure => simp [intOf]; omega
      · have e0 : ((p : Int) == 0) = false := by rw [beq_eq_false_iff_ne]; omega
        have e1 : ((p : Int) == 1) = false := by rw [beq_eq_false_iff_ne]; omega
        have e2 : ((p : Int) == 2) = false := by rw [beq_eq_false_iff_ne]; omega
        go_wp2_with fail
        refine (CP.out 3 (by omega) _ (by omega) f1 _ hd).mono ?_
        rintro e w7 ⟨z, hz, rfl, hs, hk⟩
        replace hd := hd.pick hs hk
        clear hs hk
        have ky : IntKind.i64.wrap ((y : Int) + (z : Int)) = (y : Int) + (z : Int) := IntWalk.i64_in _ (by omega)
        have ky2 : IntKind.i64.wrap ((y : Int) + (z : Int) + 11) = (y : Int) + (z : Int) + 11 := IntWalk.i64_in _ (by omega)
        obtain ⟨y9, hy9, hh9⟩ : ∃ y9 : Nat, (y + z + 11) % 12 = y9 ∧ y9 < 12 := ⟨_, rfl, Nat.mod_lt _ (by decide)⟩
        have ty : ((y : Int) + (z : Int) + 11).tmod 12 = (y9 : Int) := by rw [Int.tmod_eq_emod_of_nonneg (by omega)]; omega
        have ey : ((y : Int) + (z : Int) + 11) % 12 = (y9 : Int) := by omega
        clear hy9
        go_wp2
        go_roundw
        case rel =>
          go_light
          exact ⟨x, y9, j + 1, n - 1, f1, by omega, hh9, by have := HN.out; omega, by trivial, by first | trivial | rw [ey], by first | trivial | rw [hnn], HF1.out, hd.mono (by omega)⟩
        case measure => simp [intOf]; omega
    · obtain rfl : n = 0 := by omega
      replace hd := hd.mono (show m + 6 + 6 * j ≤ m + 90 by omega)
      clear hn hnj
      go_wp2_with fail
      refine (CO.out _ (by omega) f _ hd).mono ?_
      rintro e w5 ⟨b, rfl, hs, hk⟩
      replace hd := hd.pick hs hk
      clear hs hk
      have RET : ∀ (f : Nat → Nat) (mm : Nat) (w5 : World), (∀ q, f q < 4096) → mm ≤ m + 200 → DSt g (w.heap.size + 1) w.heap.size A c B mm w f w5 → SrcAt g (.slice A B.length c) (m + 200) (w5.setRow w.heap.size (FC f)) ∧ Wrote g w (w5.setRow w.heap.size (FC f)) := by
        intro f mm w5 hf hm hd
        exact ⟨(hd.1.1.mono hm).wrote (wrote_setRow _ _ _) (by omega), hd.1.2.1.own (wrote_setRow _ _ _) (by omega)⟩
      have HR := Lib.hid RET
      clear RET
      cases b with
      | false =>
        have b2 := hd.2.1.1
        have b3 := hd.2.1.2
        go_wp2_with (first | (refine wpList_load_fr rfl 26 24 _ rfl _ rfl b2 Tryd.underlying26 (by kernel_rfl) ?_) | (refine wpList_store_fr rfl 26 _ _ rfl _ rfl b3 rfl (by kernel_rfl) ?_))
        refine bodyPost_ret_fr (p := 2) (ty := 26) (e := 24) rfl rfl (b3.setRow _) Tryd.underlying26 (by kernel_rfl) rfl ?_
        have hz := HR.out f _ w5 HF.out (by omega) hd
        exact ⟨f, HF.out, rfl, hz.1, hz.2⟩
      | true =>
        go_wp2_with fail
        go_loopw [7] (fun i wq => ∃ (k : Nat) (f : Nat → Nat), k ≤ 12 ∧ i = .int .i64 k ∧ (∀ p, f p < 4096) ∧ DSt g (w.heap.size + 1) w.heap.size A c B (m + 92 + 2 * k) w f wq) (fun i _ => 12 - (intOf i).toNat)
        case atStart => exact ⟨0, f, by omega, rfl, HF.out, hd.mono (by omega)⟩
        case round =>
          clear hd HF
          obtain ⟨k, f2, hk, rfl, hf, hd⟩ := hrel
          have HF := Lib.hid hf
          clear hf
          have b2 := hd.2.1.1
          have b3 := hd.2.1.2
          by_cases hk12 : k < 12
          · have hd12 : (k : Int) < 12 := by omega
            have c2 := b2.cell hk12
            clear b2 b3
            go_wp2
            refine wp_region_takes (by kernel_rfl) ?_
            replace hd := hd.drew
            have c2' : wr.drew.cell? ⟨w.heap.size + 1, k, none⟩ = some (.int .u16 (f2 k : Int)) := c2
            clear c2
            generalize wr.drew = wd at *
            have cPk := CP.out 4096 (by omega) _ (by omega) f2 _ hd
            have FIN : ∀ (p : Nat) (w7 : World), (p : Int) < 4096 → SrcAt g (.slice A B.length c) (m + 92 + 2 * k + 2) w7 → Wrote g wd w7 → DSt g (w.heap.size + 1) w.heap.size A c B (m + 92 + 2 * (k + 1)) w (upd f2 k (f2 k ||| p)) (w7.setCell ⟨w.heap.size + 1, k, none⟩ (.int .u16 ((f2 k ||| p : Nat) : Int))) := by
              intro p w7 hp hs hk
              have h1 := hd.pick hs hk
              exact ((h1.put (blk_cell h1.2.1.1 hk12 (f2 k ||| p)) (Wrote.setCell (p := ⟨w.heap.size + 1, k, none⟩) (Wrote.refl (w.heap.size + 1) w7) rfl _))).mono (by omega)
            have FB : ∀ (w7 : World), Wrote g wd w7 → w7.cell? ⟨w.heap.size + 1, k, none⟩ = some (.int .u16 (f2 k : Int)) ∧ w7.frozen? ⟨w.heap.size + 1, k, none⟩ = false := by
              intro w7 hk
              have hb := hk.blk hd.2.1.1 (by have := hd.2.2; omega)
              exact ⟨hb.cell hk12, hb.free k⟩
            have OR : ∀ (p : Nat), (p : Int) < 4096 → bits .or .u16 (f2 k : Int) (p : Int) = ((f2 k ||| p : Nat) : Int) ∧ IntKind.u16.wrap (p : Int) = (p : Int) := fun p hp => ⟨u16_or_nat (f2 k) p (Nat.lt_trans (HF.out k) (by decide)) (by omega), by show (p : Int) % 65536 = _; omega⟩
            have HFIN := Lib.hid FIN
            have HFB := Lib.hid FB
            have HOR := Lib.hid OR
            clear FIN FB OR hd
            refine held_take (i := 0) (v := ?_) rfl (by kernel_rfl) (by kernel_rfl) (by kernel_rfl) (fun _ _ _ h => nomatch h.1) (Or.inl ⟨by rfl, ?_⟩) trivial ?_
            rotate_left
            · intro w hSw; go_simp; (try with_reducible rfl)
            try simp only [Act.put, List.setIfInBounds_toArray, List.set_cons_zero, List.set_cons_succ]
            refine held_take (i := 1) (v := ?_) rfl (by kernel_rfl) (by kernel_rfl) (by kernel_rfl) (fun _ _ _ h => nomatch h.1) (Or.inl ⟨by rfl, ?_⟩) trivial ?_
            rotate_left
            · intro w hSw; go_simp; (try with_reducible rfl)
            try simp only [Act.put, List.setIfInBounds_toArray, List.set_cons_zero, List.set_cons_succ]
            refine held_take (i := 2) (v := ?_) rfl (by kernel_rfl) (by kernel_rfl) (by kernel_rfl) (fun _ _ _ h => nomatch h.1) (Or.inl ⟨by rfl, ?_⟩) trivial ?_
            rotate_left
            · intro w hSw; go_simp; (try with_reducible rfl)
            try simp only [Act.put, List.setIfInBounds_toArray, List.set_cons_zero, List.set_cons_succ]
            refine held_take (i := 4) (v := ?_) rfl (by kernel_rfl) (by kernel_rfl) (by kernel_rfl) (fun _ _ _ h => nomatch h.1) (Or.inl ⟨by rfl, ?_⟩) trivial ?_
            rotate_left
            · intro w hSw; go_simp; (try with_reducible rfl)
            try simp only [Act.put, List.setIfInBounds_toArray, List.set_cons_zero, List.set_cons_succ]
            refine wpAnyH_ready (rs := [3, 5]) (by kernel_rfl) (by simp) ?_
            refine held_cons rfl (fun K hK => ?_) (held_cons rfl (fun K hK => ?_) AllReadyH.nil)
            · rw [if_pos (by rfl)]
              go_simp
              refine hK.out _ _ trivial (fun _ => ?_)
              clear hK K
              try simp only [Act.put, List.setIfInBounds_toArray, List.set_cons_zero, List.set_cons_succ]
              refine forced [5, 6, 7, 8, 9] (by decide) (by kernel_rfl) ?_
              simp only [List.filterMap_cons, List.filterMap_nil, List.getElem?_toArray, List.getElem?_cons_succ, List.getElem?_cons_zero]
              go_wp2_with fail
              refine cPk.mono ?_
              rintro e w7 ⟨p, hp, rfl, hs, hk7⟩
              obtain ⟨or1, or2⟩ := HOR.out p hp
              obtain ⟨cc, fz⟩ := HFB.out w7 hk7
              go_wp2
              rw [normalOnly_normal]
              go_wp2
              go_roundw
              case rel =>
                go_light
                exact ⟨k + 1, upd f2 k (f2 k ||| p), by omega, by go_num, upd_4096 HF.out k (by omega), HFIN.out p w7 hp hs hk7⟩
              case measure => simp [intOf]; omega
            · rw [if_pos (by rfl)]
              go_simp
              go_at_call 67
              refine cPk.mono ?_
              rintro e w7 ⟨p, hp, rfl, hs, hk7⟩
              refine hK.out _ _ trivial (fun _ => ?_)
              clear hK K
              obtain ⟨or1, or2⟩ := HOR.out p hp
              obtain ⟨cc, fz⟩ := HFB.out w7 hk7
              try simp only [Act.put, List.setIfInBounds_toArray, List.set_cons_zero, List.set_cons_succ]
              refine wpAnyH_ready (rs := [3, 6]) (by kernel_rfl) (by simp) ?_
              refine held_cons rfl (fun K hK => ?_) (held_cons rfl (fun K hK => ?_) AllReadyH.nil)
              · rw [if_pos (by rfl)]
                go_simp
                refine hK.out _ _ trivial (fun _ => ?_)
                clear hK K
                try simp only [Act.put, List.setIfInBounds_toArray, List.set_cons_zero, List.set_cons_succ]
                refine forced [6, 7, 8, 9] (by decide) (by kernel_rfl) ?_
                simp only [List.filterMap_cons, List.filterMap_nil, List.getElem?_toArray, List.getElem?_cons_succ, List.getElem?_cons_zero]
                go_wp2
                rw [normalOnly_normal]
                go_wp2
                go_roundw
                case rel =>
                  go_light
                  exact ⟨k + 1, upd f2 k (f2 k ||| p), by omega, by go_num, upd_4096 HF.out k (by omega), HFIN.out p w7 hp hs hk7⟩
                case measure => simp [intOf]; omega
              · rw [if_pos (by rfl)]
                go_simp
                refine hK.out _ _ trivial (fun _ => ?_)
                clear hK K
                try simp only [Act.put, List.setIfInBounds_toArray, List.set_cons_zero, List.set_cons_succ]
                refine forced [3, 7, 8, 9] (by decide) (by kernel_rfl) ?_
                simp only [List.filterMap_cons, List.filterMap_nil, List.getElem?_toArray, List.getElem?_cons_succ, List.getElem?_cons_zero]
                go_wp2
                rw [normalOnly_normal]
                go_wp2
                go_roundw
                case rel =>
                  go_light
                  exact ⟨k + 1, upd f2 k (f2 k ||| p), by omega, by go_num, upd_4096 HF.out k (by omega), HFIN.out p w7 hp hs hk7⟩
                case measure => simp [intOf]; omega
          · obtain rfl : k = 12 := by omega
            go_wp2_with (first | (refine wpList_load_fr rfl 26 24 _ rfl _ rfl b2 Tryd.underlying26 (by kernel_rfl) ?_) | (refine wpList_store_fr rfl 26 _ _ rfl _ rfl b3 rfl (by kernel_rfl) ?_))
            refine bodyPost_ret_fr (p := 2) (ty := 26) (e := 24) rfl rfl (b3.setRow _) Tryd.underlying26 (by kernel_rfl) rfl ?_
            have hz := HR.out f2 _ _ HF.out (by omega) hd
            exact ⟨f2, HF.out, rfl, hz.1, hz.2⟩
/-- What P6Frame draws: some valid frame. -/
theorem p6Frame_any (v : Value) (B : List Int) (w : World) (hB : ∀ i, 0 ≤ B.getD i 0 ∧ B.getD i 0 ≤ 255) (hlen : B.length ≤ 4096) (h : SlAt (eI .u8) w w.heap.size v B) :
    Calls Tryd.prog 27 #[v] w fun e w' => ∃ f : Nat → Nat, (∀ k, f k < 4096) ∧ e = .returned (.agg (FC f)) ∧ Below w.heap.size w w' := by
  obtain ⟨A, c, rfl⟩ := h.form
  have bR := Blk.new w 26 zeroF
  have h0 := (Below.refl w.heap.size w).alloc (Nat.le_refl _) (.cells (FC zeroF) 26)
  rw [FC_zero] at bR h0
  have cF := from_any A B.length c (w.alloc (.cells #[.int .u16 0, .int .u16 0, .int .u16 0, .int .u16 0, .int .u16 0, .int .u16 0, .int .u16 0, .int .u16 0, .int .u16 0, .int .u16 0, .int .u16 0, .int .u16 0] 26))
  have h1 := h.later h0
  go_enter Tryd.func27, Tryd.ntmps27
  go_wp2_with fail
  generalize w.alloc _ = w1 at *
  have h01 : w.heap.size < w1.heap.size := bR.lt
  have r := Row.new w1 155 (SR (.slice A B.length c) 0 0)
  have cD := drawn_any w1.heap.size A c B 0 (w1.alloc (.cells (SR (.slice A B.length c) 0 0) 155)) hB hlen (by omega) ⟨0, 0, by omega, r⟩ (h1.alloc (Nat.le_refl _) _)
  replace bR := bR.alloc (.cells (SR (.slice A B.length c) 0 0) 155)
  replace h0 := h0.alloc h0.size (.cells (SR (.slice A B.length c) 0 0) 155)
  have hsz := bR.lt
  have hsz1 := h01
  clear r h h1
  refine cF.mono ?_
  rintro e w' ⟨rfl, rfl⟩
  generalize hg : w1.heap.size = g at *
  generalize w1.alloc _ = w2 at *
  go_wp2_with fail
  refine cD.mono ?_
  rintro e w3 ⟨f, hf, rfl, hs, hk⟩
  have b3 := hk.blk bR (by omega)
  have h3 := Wrote.below h0 hk (by omega) (by omega)
  go_wp2_with (refine wpList_store_fr rfl 26 _ _ rfl _ rfl b3 rfl (by kernel_rfl) ?_)
  exact bodyPost_ret_fr (p := 2) (ty := 26) (e := 24) rfl rfl (b3.setRow _) Tryd.underlying26 (by kernel_rfl) rfl ⟨f, hf, rfl, below_setRow h3 (Nat.le_refl _) _⟩
end Go.Proofs.YtajlkleoincoeacDoor
