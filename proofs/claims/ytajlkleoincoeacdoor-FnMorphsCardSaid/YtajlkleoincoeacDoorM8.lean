import Derived.Test.YtajlkleoincoeacDoorM3
import Derived.Test.YtajlkleoincoeacDoorM1
import Derived.Test.YtajlkleoincoeacDoorM7
import Derived.Test.YtajlkleoincoeacDoorRows
import Derived.Test.YtajlkleoincoeacDoorM5
/- impl: isTick, isWithin. -/
namespace Go.Proofs.YtajlkleoincoeacDoor
set_option maxRecDepth 100000
open Go.RowKit
set_option linter.unusedVariables false
theorem isTick_any (z : Int) (w : World) : Calls Tryd.prog 86 #[.int .i64 z] w fun e w' => e = .returned (.bool (inB z 0 200)) ∧ w = w' := by
  by_cases h1 : 0 ≤ z
  · go_enter Tryd.func86, Tryd.ntmps86
    go_wp2
    go_ret
    exact ⟨ret_bool (by simp [inB, h1]), rfl⟩
  · go_enter Tryd.func86, Tryd.ntmps86
    go_wp2
    go_ret
    exact ⟨ret_bool (by rw [inB_false.2 (by omega)]), rfl⟩
theorem isWithin_any (z m : Int) (w : World) (h0 : 0 ≤ m) (hm : m ≤ 100000) : Calls Tryd.prog 101 #[.int .i64 z, .int .i64 m] w fun e w' => e = .returned (.bool (inB z (-m) m)) ∧ w = w' := by
  by_cases h1 : -m ≤ z
  · go_enter Tryd.func101, Tryd.ntmps101
    go_wp2
    go_ret
    exact ⟨ret_bool (by simp [inB, h1]), rfl⟩
  · go_enter Tryd.func101, Tryd.ntmps101
    go_wp2
    go_ret
    exact ⟨ret_bool (by rw [inB_false.2 (by omega)]), rfl⟩
end Go.Proofs.YtajlkleoincoeacDoor

/- NUMBERS BETWEEN TWO. spec: l00Max, l03Size, l03Between, BetweenOf; impl: sizeOf, numberBetween, BetweenOf. -/
namespace Go.Proofs.YtajlkleoincoeacDoor
set_option maxRecDepth 100000
open Go.RowKit
set_option linter.unusedVariables false
set_option linter.unusedSimpArgs false
theorem specMax_any (a b : Int) (w : World) : Calls Tryd.prog 160 #[.int .i64 a, .int .i64 b] w fun e w' => e = .returned (.int .i64 (max a b)) ∧ w = w' := by
  by_cases h : b < a
  · go_enter Tryd.func160, Tryd.ntmps160
    go_wp2
    go_ret
    exact ⟨ret_int (by omega), rfl⟩
  · go_enter Tryd.func160, Tryd.ntmps160
    go_wp2
    go_ret
    exact ⟨ret_int (by omega), rfl⟩
theorem specSize_any (n : Int) (w : World) (hn : -100000 ≤ n ∧ n ≤ 100000) : Calls Tryd.prog 148 #[.int .i64 n] w fun e w' => e = .returned (.int .i64 (szI n)) ∧ w = w' := by
  have hn1 := hn.1
  have hn2 := hn.2
  have k : IntKind.i64.wrap (-n) = -n := IntWalk.i64_in _ (by omega)
  clear hn
  go_enter Tryd.func148, Tryd.ntmps148
  go_wp2_with (go_at_call 160; refine (specMax_any _ _ _).mono ?_; rintro e w' ⟨rfl, rfl⟩)
  go_ret
  exact ⟨rfl, rfl⟩
theorem sizeOf_any (n : Int) (w : World) (hn : -100000 ≤ n ∧ n ≤ 100000) : Calls Tryd.prog 159 #[.int .i64 n] w fun e w' => e = .returned (.int .i64 (szI n)) ∧ w = w' := by
  have hn1 := hn.1
  have hn2 := hn.2
  have k : IntKind.i64.wrap (-n) = -n := IntWalk.i64_in _ (by omega)
  clear hn
  go_enter Tryd.func159, Tryd.ntmps159
  go_wp2
  all_goals (go_ret; exact ⟨ret_int (by unfold szI; omega), rfl⟩)
/-- The way as a number of its own. -/
theorem way {a b s : Int} (ha : -1000 ≤ a ∧ a ≤ 1000) (hb : -1000 ≤ b ∧ b ≤ 1000) (hs : 0 ≤ s ∧ s ≤ 1000) :
    ∃ z p q : Int, szI (b - a) = z ∧ IntKind.i64.wrap (z * s) = p ∧ 0 ≤ p ∧ p ≤ 2000000 ∧ q = (p + 500) / 1000 ∧ 0 ≤ q ∧ q ≤ 2001 ∧ betI a b s = if b < a then a - q else a + q := by
  have h0 := szI_nonneg (b - a)
  have h1 : szI (b - a) ≤ 2000 := szI_le (by omega) (by omega)
  have h2 := mul_bounds (a := szI (b - a)) (b := s) (m := 2000) (n := 1000) ⟨h0, h1⟩ hs
  refine ⟨_, _, _, rfl, IntWalk.i64_in _ (by omega), h2.1, by omega, rfl, by omega, by omega, rfl⟩
set_option maxHeartbeats 1000000 in
theorem specBetween_any (a b s : Int) (w : World) (ha : -1000 ≤ a ∧ a ≤ 1000) (hb : -1000 ≤ b ∧ b ≤ 1000) (hs : 0 ≤ s ∧ s ≤ 1000) :
    Calls Tryd.prog 128 #[.int .i64 a, .int .i64 b, .int .i64 s] w fun r w' => r = .returned (.int .i64 (betI a b s)) ∧ w = w' := by
  obtain ⟨z, p, q, hz, k1, hp0, hp1, hq, hq0, hq1, hv⟩ := way ha hb hs
  have cZ := fun w => specSize_any (b - a) w ⟨by omega, by omega⟩
  have ha1 := ha.1
  have ha2 := ha.2
  have hb1 := hb.1
  have hb2 := hb.2
  have kd : IntKind.i64.wrap (b - a) = b - a := IntWalk.i64_in _ (by omega)
  rw [hz] at cZ
  rw [hv]
  by_cases h : b < a
  · rw [if_pos h]
    clear hz hv ha hb hs
    go_enter Tryd.func128, Tryd.ntmps128
    go_wp2_with (go_at_call 148; refine (cZ _).mono ?_; rintro e w' ⟨rfl, rfl⟩)
    go_ret
    exact ⟨ret_int (by omega), rfl⟩
  · rw [if_neg h]
    clear hz hv ha hb hs
    go_enter Tryd.func128, Tryd.ntmps128
    go_wp2_with (go_at_call 148; refine (cZ _).mono ?_; rintro e w' ⟨rfl, rfl⟩)
    go_ret
    exact ⟨ret_int (by omega), rfl⟩
set_option maxHeartbeats 1000000 in
theorem numberBetween_any (a b s : Int) (w : World) (ha : -1000 ≤ a ∧ a ≤ 1000) (hb : -1000 ≤ b ∧ b ≤ 1000) (hs : 0 ≤ s ∧ s ≤ 1000) :
    Calls Tryd.prog 147 #[.int .i64 a, .int .i64 b, .int .i64 s] w fun r w' => r = .returned (.int .i64 (betI a b s)) ∧ w = w' := by
  obtain ⟨z, p, q, hz, k1, hp0, hp1, hq, hq0, hq1, hv⟩ := way ha hb hs
  have cZ := fun w => sizeOf_any (b - a) w ⟨by omega, by omega⟩
  have ha1 := ha.1
  have ha2 := ha.2
  have hb1 := hb.1
  have hb2 := hb.2
  have kd : IntKind.i64.wrap (b - a) = b - a := IntWalk.i64_in _ (by omega)
  rw [hz] at cZ
  rw [hv]
  by_cases h : b < a
  · rw [if_pos h]
    clear hz hv ha hb hs
    go_enter Tryd.func147, Tryd.ntmps147
    go_wp2_with (go_at_call 159; refine (cZ _).mono ?_; rintro e w' ⟨rfl, rfl⟩)
    go_ret
    exact ⟨ret_int (by omega), rfl⟩
  · rw [if_neg h]
    clear hz hv ha hb hs
    go_enter Tryd.func147, Tryd.ntmps147
    go_wp2_with (go_at_call 159; refine (cZ _).mono ?_; rintro e w' ⟨rfl, rfl⟩)
    go_ret
    exact ⟨ret_int (by omega), rfl⟩
end Go.Proofs.YtajlkleoincoeacDoor

/- KEYS: how a key lies in memory; the laws' own helpers over one key: toKey, fillerKey, eqKey. -/
namespace Go.Proofs.YtajlkleoincoeacDoor
set_option maxRecDepth 100000
open Go.RowKit
set_option linter.unusedVariables false
def KC (s : Int × Int × Int) : Array Value := #[.int .i16 s.1, .int .i8 s.2.1, .int .i8 s.2.2]
def eKy : Enc (Int × Int × Int) := ⟨fun s => (KC s).toList, 3, fun _ => rfl, fun s v hv => by simp [KC] at hv; rcases hv with rfl | rfl | rfl <;> rfl⟩
theorem eKy_n : eKy.n = 3 := rfl
def zeroK : Int × Int × Int := (0, 0, 0)
def fillK : Int × Int × Int := (-30101, -101, -101)
/-- The key at an index. -/
def kAt (L : List (Int × Int × Int)) (i : Nat) : Int × Int × Int := L.getD i zeroK
theorem kAt_get {L : List (Int × Int × Int)} {i : Nat} (h : i < L.length) : L[i]? = some (kAt L i) := by
  unfold kAt
  rw [List.getD_eq_getElem?_getD, List.getElem?_eq_getElem h]; rfl
theorem ky_cell0 {w : World} {b o : Nat} {s : Int × Int × Int} (h : w.rangeAt b o (KC s).toList) : w.cell? ⟨b, o, none⟩ = some (.int .i16 s.1) := h 0 _ rfl
theorem ky_cell1 {w : World} {b o : Nat} {s : Int × Int × Int} (h : w.rangeAt b o (KC s).toList) : w.cell? ⟨b, o + 1, none⟩ = some (.int .i8 s.2.1) := h 1 _ rfl
theorem ky_cell2 {w : World} {b o : Nat} {s : Int × Int × Int} (h : w.rangeAt b o (KC s).toList) : w.cell? ⟨b, o + 2, none⟩ = some (.int .i8 s.2.2) := h 2 _ rfl
theorem ky_field0 (t x y : Int) (w : World) : (Instr.field 82 (.agg #[.int .i16 t, .int .i8 x, .int .i8 y]) 0).run Tryd.prog w = .ok (.int .i16 t) w := by kernel_rfl
theorem ky_field1 (t x y : Int) (w : World) : (Instr.field 82 (.agg #[.int .i16 t, .int .i8 x, .int .i8 y]) 1).run Tryd.prog w = .ok (.int .i8 x) w := by kernel_rfl
theorem ky_field2 (t x y : Int) (w : World) : (Instr.field 82 (.agg #[.int .i16 t, .int .i8 x, .int .i8 y]) 2).run Tryd.prog w = .ok (.int .i8 y) w := by kernel_rfl
/-- What a key's fields hold. -/
def ltK1 (s : Int × Int × Int) : Prop := (-32768 ≤ s.1 ∧ s.1 ≤ 32767) ∧ (-128 ≤ s.2.1 ∧ s.2.1 ≤ 127) ∧ -128 ≤ s.2.2 ∧ s.2.2 ≤ 127
def ltK (L : List (Int × Int × Int)) : Prop := ∀ s ∈ L, ltK1 s
theorem kAt_lt {L : List (Int × Int × Int)} (h : ltK L) (i : Nat) : ltK1 (kAt L i) := by
  by_cases hi : i < L.length
  · exact h _ (List.mem_of_getElem? (kAt_get hi))
  · unfold kAt
    rw [List.getD_eq_getElem?_getD, List.getElem?_eq_none (by omega)]
    simp [zeroK, ltK1]
set_option maxHeartbeats 400000 in
theorem toKey_any (s : Int × Int × Int) (w : World) :
    Calls Tryd.prog 50 #[.agg (KC s)] w fun e w' => e = .returned (.agg (KC s)) ∧ Below w.heap.size w w' := by
  have h0 := Below.refl w.heap.size w
  go_enter Tryd.func50, Tryd.ntmps50
  unfold KC
  go_wp2
  refine bodyPost_ret_row (p := 2) (ty := 82) (cs := KC s) rfl rfl (g := w.heap.size + 1) (t := 82) ?_ Tryd.underlying82 rfl (by kernel_rfl) rfl ⟨rfl, ?_⟩
  · have := (Row.new (w.alloc (.cells (KC s) 84)) 82 (KC s)).alloc (.cells (KC s) 82)
    rw [World.size_alloc] at this
    exact this
  · exact ((h0.alloc (Nat.le_refl _) _).alloc (by simp) _).alloc (by simp; omega) _
set_option maxHeartbeats 400000 in
theorem fillerK_any (w : World) :
    Calls Tryd.prog 51 #[] w fun e w' => e = .returned (.agg (KC fillK)) ∧ Below w.heap.size w w' := by
  go_enter Tryd.func51, Tryd.ntmps51
  go_wp2
  refine bodyPost_ret_row (p := 0) (ty := 82) (cs := KC fillK) rfl rfl (Row.new w 82 (KC fillK)) Tryd.underlying82 rfl (by kernel_rfl) rfl ⟨rfl, (Below.refl _ _).alloc (Nat.le_refl _) _⟩
set_option maxHeartbeats 400000 in
theorem eqKey_any (s t : Int × Int × Int) (w : World) :
    Calls Tryd.prog 54 #[.agg (KC s), .agg (KC t)] w fun e w' => e = .returned (.bool (decide (s = t))) ∧ Below w.heap.size w w' := by
  obtain ⟨a, b, p⟩ := s
  obtain ⟨c, d, q⟩ := t
  have hb := ((Below.refl w.heap.size w).alloc (Nat.le_refl _) (.cells (KC (a, b, p)) 82)).alloc (by simp) (.cells (KC (c, d, q)) 82)
  unfold KC
  unfold KC at hb
  by_cases h1 : a = c
  · by_cases h2 : b = d
    · by_cases h3 : p = q
      · have e1 : (a != c) = false := by simp [h1]
        have e2 : (b != d) = false := by simp [h2]
        have e3 : (p != q) = false := by simp [h3]
        have hv : decide ((a, b, p) = (c, d, q)) = true := by simp [h1, h2, h3]
        clear h1 h2 h3
        rw [hv]
        clear hv
        go_enter Tryd.func54, Tryd.ntmps54
        go_wp2
        go_ret
        exact ⟨rfl, hb⟩
      · have e1 : (a != c) = false := by simp [h1]
        have e2 : (b != d) = false := by simp [h2]
        have e3 : (p != q) = true := by simp [h3]
        have hv : decide ((a, b, p) = (c, d, q)) = false := by simp [h3]
        clear h1 h2 h3
        rw [hv]
        clear hv
        go_enter Tryd.func54, Tryd.ntmps54
        go_wp2
        go_ret
        exact ⟨rfl, hb⟩
    · have e1 : (a != c) = false := by simp [h1]
      have e2 : (b != d) = true := by simp [h2]
      have hv : decide ((a, b, p) = (c, d, q)) = false := by simp [h2]
      clear h1 h2
      rw [hv]
      clear hv
      go_enter Tryd.func54, Tryd.ntmps54
      go_wp2
      go_ret
      exact ⟨rfl, hb⟩
  · have e1 : (a != c) = true := by simp [h1]
    have hv : decide ((a, b, p) = (c, d, q)) = false := by simp [h1]
    clear h1
    rw [hv]
    clear hv
    go_enter Tryd.func54, Tryd.ntmps54
    go_wp2
    go_ret
    exact ⟨rfl, hb⟩
end Go.Proofs.YtajlkleoincoeacDoor

/- TRACKS, PLAINLY: when a track is valid. No program is named. -/
namespace Go.Proofs.YtajlkleoincoeacDoor
def inK (k : Int × Int × Int) : Bool := inB k.1 0 200 && (inB k.2.1 (-24) 24 && inB k.2.2 (-24) 24)
/-- A key, and the one ahead of it. -/
def stepK (L : List (Int × Int × Int)) (i : Nat) : Bool := inK (kAt L i) && decide (0 < i → (kAt L (i - 1)).1 < (kAt L i).1)
def okT (L : List (Int × Int × Int)) : Bool := decide (1 ≤ L.length ∧ L.length ≤ 20) && (List.range L.length).all (stepK L)
theorem okT_iff {L : List (Int × Int × Int)} : okT L = true ↔ (1 ≤ L.length ∧ L.length ≤ 20) ∧ ∀ i, i < L.length → stepK L i = true := by
  unfold okT
  rw [Bool.and_eq_true, decide_eq_true_iff, List.all_eq_true]
  simp only [List.mem_range]
theorem okT_len {L : List (Int × Int × Int)} (h : L.length < 1 ∨ 20 < L.length) : okT L = false := by
  unfold okT; rw [decide_eq_false (by omega)]; rfl
theorem okT_at {L : List (Int × Int × Int)} {i : Nat} (hi : i < L.length) (h : stepK L i = false) : okT L = false := by
  cases ho : okT L with
  | false => rfl
  | true => have := (okT_iff.1 ho).2 i hi; rw [h] at this; cases this
theorem stepK_in {L : List (Int × Int × Int)} {i : Nat} (h : inK (kAt L i) = false) : stepK L i = false := by unfold stepK; rw [h]; rfl
theorem stepK_up {L : List (Int × Int × Int)} {i : Nat} (h0 : 0 < i) (h : (kAt L i).1 ≤ (kAt L (i - 1)).1) : stepK L i = false := by
  unfold stepK; rw [decide_eq_false (by intro hh; have := hh h0; omega), Bool.and_false]
theorem stepK_ok {L : List (Int × Int × Int)} {i : Nat} (h : inK (kAt L i) = true) (h2 : 0 < i → (kAt L (i - 1)).1 < (kAt L i).1) : stepK L i = true := by
  unfold stepK; rw [h, decide_eq_true h2]; rfl
theorem inK_t {k : Int × Int × Int} (h : inB k.1 0 200 = false) : inK k = false := by unfold inK; rw [h]; rfl
theorem inK_x {k : Int × Int × Int} (h : inB k.2.1 (-24) 24 = false) : inK k = false := by unfold inK; rw [h, Bool.false_and, Bool.and_false]
theorem inK_y {k : Int × Int × Int} (h : inB k.2.2 (-24) 24 = false) : inK k = false := by unfold inK; rw [h, Bool.and_false, Bool.and_false]
theorem inK_ok {k : Int × Int × Int} (h : inB k.1 0 200 = true) (h2 : inB k.2.1 (-24) 24 = true) (h3 : inB k.2.2 (-24) 24 = true) : inK k = true := by unfold inK; rw [h, h2, h3]; rfl
/-- What a valid track's keys are. -/
theorem okT_key {L : List (Int × Int × Int)} (h : okT L = true) {i : Nat} (hi : i < L.length) : (0 ≤ (kAt L i).1 ∧ (kAt L i).1 ≤ 200) ∧ (-24 ≤ (kAt L i).2.1 ∧ (kAt L i).2.1 ≤ 24) ∧ -24 ≤ (kAt L i).2.2 ∧ (kAt L i).2.2 ≤ 24 := by
  have := (okT_iff.1 h).2 i hi
  unfold stepK inK at this
  simp only [Bool.and_eq_true] at this
  exact ⟨inB_iff.1 this.1.1, inB_iff.1 this.1.2.1, inB_iff.1 this.1.2.2⟩
theorem okT_up {L : List (Int × Int × Int)} (h : okT L = true) {i : Nat} (hi : i + 1 < L.length) : (kAt L i).1 < (kAt L (i + 1)).1 := by
  have := (okT_iff.1 h).2 (i + 1) hi
  unfold stepK at this
  simp only [Bool.and_eq_true, decide_eq_true_iff] at this
  exact this.2 (by omega)
theorem okT_lt {L : List (Int × Int × Int)} (h : okT L = true) {i j : Nat} (hij : i < j) (hj : j < L.length) : (kAt L i).1 < (kAt L j).1 := by
  induction j with
  | zero => omega
  | succ j ih =>
    rcases Nat.lt_succ_iff_lt_or_eq.1 hij with h' | rfl
    · have := ih h' (by omega); have := okT_up h hj; omega
    · exact okT_up h hj
def okTC (L : List (Int × Int × Int)) : Int := if okT L then 0 else 1
theorem okTC_cases (L : List (Int × Int × Int)) : (okT L = false ∧ okTC L = 1) ∨ (okT L = true ∧ okTC L = 0) := by unfold okTC; cases okT L <;> simp
end Go.Proofs.YtajlkleoincoeacDoor
