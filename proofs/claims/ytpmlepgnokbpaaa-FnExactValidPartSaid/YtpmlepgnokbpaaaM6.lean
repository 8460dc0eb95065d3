import Derived.Test.YtpmlepgnokbpaaaM1
import Derived.Test.YtpmlepgnokbpaaaM4
import Derived.Test.YtpmlepgnokbpaaaRows
import Derived.RegionTactic
/- EASES, PLAINLY: shares of ways, numbers between two. No program is named. -/
namespace Go.Proofs.Ytpmlepgnokbpaaa
/-- The share of a way behind a step. -/
def shareI (e s n : Int) : Int :=
  if e = 0 then s * 1000 / n else if e = 1 then s * s * 1000 / (n * n) else if e = 2 then 1000 - (n - s) * (n - s) * 1000 / (n * n)
  else if 2 * s < n then 2 * s * s * 1000 / (n * n) else 1000 - 2 * (n - s) * (n - s) * 1000 / (n * n)
def easC (e s n : Int) : Int := if inB e 0 3 && (inB n 1 200 && inB s 0 n) then 0 else 2
def easV (e s n : Int) : Int := if easC e s n = 0 then shareI e s n else 0
def szI (n : Int) : Int := max n (-n)
/-- The number at a share between two. -/
def betI (a b s : Int) : Int := if b < a then a - (szI (b - a) * s + 500) / 1000 else a + (szI (b - a) * s + 500) / 1000
def betC (a b s : Int) : Int := if inB a (-1000) 1000 && (inB b (-1000) 1000 && inB s 0 1000) then 0 else 2
def betV (a b s : Int) : Int := if betC a b s = 0 then betI a b s else 0
theorem easC_cases (e s n : Int) : (inB e 0 3 = false ∧ easC e s n = 2) ∨ (inB e 0 3 = true ∧ inB n 1 200 = false ∧ easC e s n = 2) ∨ (inB e 0 3 = true ∧ inB n 1 200 = true ∧ inB s 0 n = false ∧ easC e s n = 2) ∨ (inB e 0 3 = true ∧ inB n 1 200 = true ∧ inB s 0 n = true ∧ easC e s n = 0) := by
  unfold easC; cases inB e 0 3 <;> cases inB n 1 200 <;> cases inB s 0 n <;> simp
theorem betC_cases (a b s : Int) : (inB a (-1000) 1000 = false ∧ betC a b s = 2) ∨ (inB a (-1000) 1000 = true ∧ inB b (-1000) 1000 = false ∧ betC a b s = 2) ∨ (inB a (-1000) 1000 = true ∧ inB b (-1000) 1000 = true ∧ inB s 0 1000 = false ∧ betC a b s = 2) ∨ (inB a (-1000) 1000 = true ∧ inB b (-1000) 1000 = true ∧ inB s 0 1000 = true ∧ betC a b s = 0) := by
  unfold betC; cases inB a (-1000) 1000 <;> cases inB b (-1000) 1000 <;> cases inB s 0 1000 <;> simp
theorem mul_bounds {a b m n : Int} (ha : 0 ≤ a ∧ a ≤ m) (hb : 0 ≤ b ∧ b ≤ n) : 0 ≤ a * b ∧ a * b ≤ m * n :=
  ⟨Int.mul_nonneg ha.1 hb.1, Int.mul_le_mul ha.2 hb.2 hb.1 (Int.le_trans ha.1 ha.2)⟩
theorem div_bounds {x m : Int} (hx : 0 ≤ x) {y : Int} (hy : 1 ≤ y) (h : x ≤ m * y) : 0 ≤ x / y ∧ x / y ≤ m :=
  ⟨Int.ediv_nonneg hx (by omega), by
    have := Int.ediv_le_ediv (a := x) (b := m * y) (c := y) (by omega) h
    rwa [Int.mul_ediv_cancel _ (by omega)] at this⟩
/-- A square's share. -/
theorem sq_share {s n : Int} (hs : 0 ≤ s ∧ s ≤ n) (hn : 1 ≤ n) : 0 ≤ s * s * 1000 / (n * n) ∧ s * s * 1000 / (n * n) ≤ 1000 := by
  have h1 := mul_bounds hs hs
  have h2 : 1 * 1 ≤ n * n := Int.mul_le_mul hn hn (by omega) (by omega)
  exact div_bounds (by omega) (by omega) (by omega)
theorem sq_share2 {s n : Int} (hs : 0 ≤ s) (h2 : 2 * s ≤ n) (hn : 1 ≤ n) : 0 ≤ 2 * s * s * 1000 / (n * n) ∧ 2 * s * s * 1000 / (n * n) ≤ 1000 := by
  have h1 := mul_bounds (a := 2 * s) (b := s) (m := n) (n := n) ⟨by omega, h2⟩ ⟨hs, by omega⟩
  have h2 : 1 * 1 ≤ n * n := Int.mul_le_mul hn hn (by omega) (by omega)
  exact div_bounds (by omega) (by omega) (by omega)
theorem shareI_bounds {e s n : Int} (hs : 0 ≤ s ∧ s ≤ n) (hn : 1 ≤ n) : 0 ≤ shareI e s n ∧ shareI e s n ≤ 1000 := by
  unfold shareI
  split
  · exact div_bounds (by omega) hn (by omega)
  · split
    · exact sq_share hs hn
    · split
      · have := sq_share (s := n - s) (n := n) ⟨by omega, by omega⟩ hn
        omega
      · split
        · exact sq_share2 hs.1 (by omega) hn
        · have := sq_share2 (s := n - s) (n := n) (by omega) (by omega) hn
          omega
theorem szI_nonneg (n : Int) : 0 ≤ szI n := by unfold szI; omega
theorem szI_le {n m : Int} (h1 : -m ≤ n) (h2 : n ≤ m) : szI n ≤ m := by unfold szI; omega
/-- What lies between two lies between them. -/
theorem betI_bounds {a b s lo hi : Int} (ha : lo ≤ a ∧ a ≤ hi) (hb : lo ≤ b ∧ b ≤ hi) (hs : 0 ≤ s ∧ s ≤ 1000) : lo ≤ betI a b s ∧ betI a b s ≤ hi := by
  have h0 := szI_nonneg (b - a)
  have h1 := mul_bounds (a := szI (b - a)) (b := s) (m := szI (b - a)) (n := 1000) ⟨h0, Int.le_refl _⟩ hs
  have h2 := div_bounds (x := szI (b - a) * s + 500) (m := szI (b - a)) (y := 1000) (by omega) (by omega)
  have h3 : (szI (b - a) * s + 500) / 1000 ≤ szI (b - a) := by omega
  have h4 : 0 ≤ (szI (b - a) * s + 500) / 1000 := by omega
  unfold betI
  split
  · have : szI (b - a) = a - b := by unfold szI; omega
    omega
  · have : szI (b - a) = b - a := by unfold szI; omega
    omega
theorem betI_zero (a b : Int) : betI a b 0 = a := by unfold betI; simp
/-- At the step 0 nothing of the way is gone. -/
theorem shareI_zero {e n : Int} (hn : 1 ≤ n) : shareI e 0 n = 0 := by
  have h2 : 1 * 1 ≤ n * n := Int.mul_le_mul hn hn (by omega) (by omega)
  have h3 : n * n * 1000 / (n * n) = 1000 := by rw [Int.mul_comm (n * n) 1000, Int.mul_ediv_cancel _ (by omega)]
  unfold shareI
  simp [h3]
  omega
end Go.Proofs.Ytpmlepgnokbpaaa

/- TRACKS, PLAINLY: when a track is valid. No program is named. -/
namespace Go.Proofs.Ytpmlepgnokbpaaa
def inK (k : Int × Int × Int) : Bool := inB k.1 0 200 && (inB k.2.1 (-24) 24 && inB k.2.2 (-24) 24)
/-- A key, and the one ahead of it. -/
def stepK (L : List (Int × Int × Int)) (i : Nat) : Bool := inK (kAt L i) && decide (0 < i → (kAt L (i - 1)).1 < (kAt L i).1)
def okT (L : List (Int × Int × Int)) : Bool := decide (1 ≤ L.length ∧ L.length ≤ 20) && (List.range L.length).all (stepK L)
theorem okT_iff {L : List (Int × Int × Int)} : okT L = true ↔ (1 ≤ L.length ∧ L.length ≤ 20) ∧ ∀ i, i < L.length → stepK L i = true := by
  unfold okT
  rw [Bool.and_eq_true, decide_eq_true_iff, List.all_eq_true]
  simp only [List.mem_range]
theorem okT_len {L : List (Int × Int × Int)} (h : L.length < 1 ∨ 20 < L.length) : okT L = false := by
  unfold okT; rw [decide_eq_false (by omega)]; rfl
theorem okT_at {L : List (Int × Int × Int)} {i : Nat} (hi : i < L.length) (h : stepK L i = false) : okT L = false := by
  cases ho : okT L with
  | false => rfl
  | true => have := (okT_iff.1 ho).2 i hi; rw [h] at this; cases this
theorem stepK_in {L : List (Int × Int × Int)} {i : Nat} (h : inK (kAt L i) = false) : stepK L i = false := by unfold stepK; rw [h]; rfl
theorem stepK_up {L : List (Int × Int × Int)} {i : Nat} (h0 : 0 < i) (h : (kAt L i).1 ≤ (kAt L (i - 1)).1) : stepK L i = false := by
  unfold stepK; rw [decide_eq_false (by intro hh; have := hh h0; omega), Bool.and_false]
theorem stepK_ok {L : List (Int × Int × Int)} {i : Nat} (h : inK (kAt L i) = true) (h2 : 0 < i → (kAt L (i - 1)).1 < (kAt L i).1) : stepK L i = true := by
  unfold stepK; rw [h, decide_eq_true h2]; rfl
theorem inK_t {k : Int × Int × Int} (h : inB k.1 0 200 = false) : inK k = false := by unfold inK; rw [h]; rfl
theorem inK_x {k : Int × Int × Int} (h : inB k.2.1 (-24) 24 = false) : inK k = false := by unfold inK; rw [h, Bool.false_and, Bool.and_false]
theorem inK_y {k : Int × Int × Int} (h : inB k.2.2 (-24) 24 = false) : inK k = false := by unfold inK; rw [h, Bool.and_false, Bool.and_false]
theorem inK_ok {k : Int × Int × Int} (h : inB k.1 0 200 = true) (h2 : inB k.2.1 (-24) 24 = true) (h3 : inB k.2.2 (-24) 24 = true) : inK k = true := by unfold inK; rw [h, h2, h3]; rfl
/-- What a valid track's keys are. -/
theorem okT_key {L : List (Int × Int × Int)} (h : okT L = true) {i : Nat} (hi : i < L.length) : (0 ≤ (kAt L i).1 ∧ (kAt L i).1 ≤ 200) ∧ (-24 ≤ (kAt L i).2.1 ∧ (kAt L i).2.1 ≤ 24) ∧ -24 ≤ (kAt L i).2.2 ∧ (kAt L i).2.2 ≤ 24 := by
  have := (okT_iff.1 h).2 i hi
  unfold stepK inK at this
  simp only [Bool.and_eq_true] at this
  exact ⟨inB_iff.1 this.1.1, inB_iff.1 this.1.2.1, inB_iff.1 this.1.2.2⟩
theorem okT_up {L : List (Int × Int × Int)} (h : okT L = true) {i : Nat} (hi : i + 1 < L.length) : (kAt L i).1 < (kAt L (i + 1)).1 := by
  have := (okT_iff.1 h).2 (i + 1) hi
  unfold stepK at this
  simp only [Bool.and_eq_true, decide_eq_true_iff] at this
  exact this.2 (by omega)
theorem okT_lt {L : List (Int × Int × Int)} (h : okT L = true) {i j : Nat} (hij : i < j) (hj : j < L.length) : (kAt L i).1 < (kAt L j).1 := by
  induction j with
  | zero => omega
  | succ j ih =>
    rcases Nat.lt_succ_iff_lt_or_eq.1 hij with h' | rfl
    · have := ih h' (by omega); have := okT_up h hj; omega
    · exact okT_up h hj
def okTC (L : List (Int × Int × Int)) : Int := if okT L then 0 else 1
theorem okTC_cases (L : List (Int × Int × Int)) : (okT L = false ∧ okTC L = 1) ∨ (okT L = true ∧ okTC L = 0) := by unfold okTC; cases okT L <;> simp
end Go.Proofs.Ytpmlepgnokbpaaa

/- spec: l00In, l01Ok, ValidFrame, l01Place, l01Asked, l01Has, l01Put. -/
namespace Go.Proofs.Ytpmlepgnokbpaaa
set_option maxRecDepth 100000
open Go.RowKit
theorem in_any (n a b : Int) (w : World) :
    Calls Try.prog 73 #[.int .i64 n, .int .i64 a, .int .i64 b] w fun e w' => e = .returned (.bool (inB n a b)) ∧ w = w' := by
  by_cases h1 : a ≤ n
  · by_cases h2 : n ≤ b
    · go_enter Try.func73, Try.ntmps73
      go_wp2
      go_ret
      exact ⟨ret_bool (by rw [inB_iff.2 ⟨h1, h2⟩]), rfl⟩
    · go_enter Try.func73, Try.ntmps73
      go_wp2
      go_ret
      exact ⟨ret_bool (by rw [inB_false.2 (by omega)]), rfl⟩
  · go_enter Try.func73, Try.ntmps73
    go_wp2
    go_ret
    exact ⟨ret_bool (by rw [inB_false.2 (by omega)]), rfl⟩
theorem place_any (x y : Int) (w : World) :
    Calls Try.prog 122 #[.int .i64 x, .int .i64 y] w fun e w' => e = .returned (.bool (plB x y)) ∧ w = w' := by
  cases hx : inB x 0 11 with
  | true =>
    have HX := Lib.hid hx
    go_enter Try.func122, Try.ntmps122
    go_wp2_with (go_at_call 73; refine (in_any _ _ _ _).mono ?_; rintro e w' ⟨rfl, rfl⟩)
    go_ret
    refine ⟨ret_bool ?_, rfl⟩
    have h1 := inB_iff.1 HX.out
    show inB y 0 11 = _
    simp [inB, plB, h1.1, h1.2]
  | false =>
    have HX := Lib.hid hx
    go_enter Try.func122, Try.ntmps122
    go_wp2_with (go_at_call 73; refine (in_any _ _ _ _).mono ?_; rintro e w' ⟨rfl, rfl⟩)
    go_ret
    refine ⟨ret_bool ?_, rfl⟩
    have h1 := inB_false.1 HX.out
    exact (plB_false.2 (by omega)).symm
set_option maxHeartbeats 400000 in
theorem ok_any (B : Nat) (f : Nat → Nat) (w : World) (hB : Blk w B 27 f) :
    Calls Try.prog 91 #[.pointer (some ⟨B, 0, none⟩)] w fun e w' => e = .returned (.bool (okF f)) ∧ w = w' := by
  go_enter Try.func91, Try.ntmps91
  go_wp2
  go_loop [3] (fun i => ∃ k : Nat, k ≤ 12 ∧ i = .int .i64 k ∧ (∀ j, j < k → f j ≤ 4095)) (fun i => 12 - (intOf i).toNat)
  case atStart => exact ⟨0, by omega, rfl, by omega⟩
  case round =>
    obtain ⟨k, hk, rfl, he⟩ := hrel
    have HE := Lib.hid he
    clear he
    by_cases hlt : k < 12
    · have c1 := hB.cell hlt
      by_cases hf : f k ≤ 4095
      · go_wp2
        go_round
        case rel =>
          go_light
          refine ⟨k + 1, by omega, by go_num, ?_⟩
          intro j hj
          rcases Nat.lt_succ_iff_lt_or_eq.1 hj with h | rfl
          · exact HE.out j h
          · exact hf
        case measure => simp [intOf]; omega
      · go_wp2
        go_ret
        exact ⟨ret_bool (okF_false.2 ⟨k, hlt, by omega⟩).symm, rfl⟩
    · go_wp2
      go_ret
      have h12 : k = 12 := by omega
      subst h12
      exact ⟨ret_bool (okF_iff.2 HE.out).symm, rfl⟩
set_option maxHeartbeats 400000 in
theorem has_any (B : Nat) (f : Nat → Nat) (x y : Int) (w : World) (hf : ∀ k, f k < 65536) (hB : Blk w B 27 f) :
    Calls Try.prog 121 #[.pointer (some ⟨B, 0, none⟩), .int .i64 x, .int .i64 y] w fun e w' => e = .returned (.bool (hasF f x y)) ∧ w = w' := by
  cases hp : plB x y with
  | false =>
    go_enter Try.func121, Try.ntmps121
    go_wp2_with (go_at_call 122; refine (place_any _ _ _).mono ?_; rintro e w' ⟨rfl, rfl⟩)
    go_ret
    exact ⟨ret_bool (by simp [hasF, hp]), rfl⟩
  | true =>
    have h1 := plB_iff.1 hp
    obtain ⟨x, rfl⟩ := Int.eq_ofNat_of_zero_le h1.1
    obtain ⟨y, rfl⟩ := Int.eq_ofNat_of_zero_le h1.2.2.1
    have hx : x < 12 := by omega
    have hy : y < 12 := by omega
    have hfy := hf y
    clear h1 hf
    have c1 := hB.cell hy
    go_enter Try.func121, Try.ntmps121
    go_wp2_with (go_at_call 122; refine (place_any _ _ _).mono ?_; rintro e w' ⟨rfl, rfl⟩)
    go_ret
    refine ⟨ret_bool ?_, rfl⟩
    go_light
    rw [tmod_bit]
    simp [hasF, hp]
set_option maxHeartbeats 400000 in
theorem put_any (B : Nat) (f : Nat → Nat) (x y : Int) (w : World) (hf : ∀ k, f k < 65536) (hB : Blk w B 27 f) :
    Calls Try.prog 114 #[.pointer (some ⟨B, 0, none⟩), .int .i64 x, .int .i64 y] w fun e w' => e = .returned (.tuple #[]) ∧ Wrote B w w' ∧ Blk w' B 27 (putF f x y) := by
  cases hp : plB x y with
  | false =>
    go_enter Try.func114, Try.ntmps114
    go_wp2_with (go_at_call 122; refine (place_any _ _ _).mono ?_; rintro e w' ⟨rfl, rfl⟩)
    go_end0
    exact ⟨rfl, Wrote.refl _ _, by simp only [putF, hp]; exact hB⟩
  | true =>
    have h1 := plB_iff.1 hp
    obtain ⟨x, rfl⟩ := Int.eq_ofNat_of_zero_le h1.1
    obtain ⟨y, rfl⟩ := Int.eq_ofNat_of_zero_le h1.2.2.1
    have hx : x < 12 := by omega
    have hy : y < 12 := by omega
    have hfy := hf y
    clear h1 hf
    have c1 := hB.cell hy
    have c2 := hB.free y
    go_enter Try.func114, Try.ntmps114
    go_wp2_with (go_at_call 122; refine (place_any _ _ _).mono ?_; rintro e w' ⟨rfl, rfl⟩)
    go_region
    all_goals go_end0
    rw [u16_or_pow hfy (by omega)]
    refine ⟨rfl, ((Wrote.refl B w).setCell (p := ⟨B, y, none⟩) rfl _).drew, ?_⟩
    simp only [putF, hp, if_true, Int.toNat_natCast]
    exact hB.set hy _
end Go.Proofs.Ytpmlepgnokbpaaa
