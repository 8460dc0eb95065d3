/- Boxes: what is within one; laws.toBox; spec: l01Boxed; impl: isSpan, Box.filled. -/
import Derived.Test.YtjbjbdkmomkclaaRows
import Derived.Test.YtjbjbdkmomkclaaFr
import Derived.Test.YtjbjbdkmomkclaaS1
import Derived.Test.YtjbjbdkmomkclaaBx
namespace Go.Proofs.Ytjbjbdkmomkclaa
set_option maxRecDepth 100000
open Go.RowKit
set_option linter.unusedVariables false
def spanB (x n : Int) : Bool := decide (0 ≤ x ∧ 1 ≤ n ∧ n ≤ 12 - x)
theorem spanB_iff {x n : Int} : spanB x n = true ↔ 0 ≤ x ∧ 1 ≤ n ∧ n ≤ 12 - x := by simp [spanB]
theorem spanB_false {x n : Int} : spanB x n = false ↔ ¬ (0 ≤ x ∧ 1 ≤ n ∧ n ≤ 12 - x) := by simp only [spanB, decide_eq_false_iff_not]
/-- A number that an int8 holds. -/
def i8B (n : Int) : Prop := -128 ≤ n ∧ n ≤ 127
set_option maxHeartbeats 400000 in
theorem toBox_any (x y a b : Int) (w : World) :
    Calls Try.prog 38 #[.agg (BX x y a b)] w fun e w' => e = .returned (.agg (BX x y a b)) ∧ Below w.heap.size w w' := by
  have r2 := (Row.new (w.alloc (.cells (BX x y a b) 59)) 61 (BX x y a b)).alloc (.cells (BX x y a b) 61)
  have hb := (((Below.refl w.heap.size w).alloc (Nat.le_refl _) (.cells (BX x y a b) 59)).alloc (by simp) (.cells (BX x y a b) 61)).alloc (by simp; omega) (.cells (BX x y a b) 61)
  rw [World.size_alloc] at r2
  unfold BX at *
  go_enter Try.func38, Try.ntmps38
  go_wp2
  exact bodyPost_ret_row (p := 2) (ty := 61) rfl rfl r2 Try.underlying61 rfl (by kernel_rfl) rfl ⟨rfl, hb⟩
set_option maxHeartbeats 400000 in
theorem isSpan_any (x n : Int) (hx : i8B x) (hn : i8B n) (w : World) :
    Calls Try.prog 90 #[.int .i8 x, .int .i8 n] w fun e w' => e = .returned (.bool (spanB x n)) ∧ w = w' := by
  unfold i8B at hx hn
  by_cases h1 : 0 ≤ x
  · have w1 : IntKind.i8.wrap (12 - x) = 12 - x := by simp [IntKind.wrap, IntKind.bits, IntKind.signed]; omega
    by_cases h2 : 1 ≤ n
    · go_enter Try.func90, Try.ntmps90
      go_wp2
      go_ret
      refine ⟨ret_bool ?_, rfl⟩
      rw [Bool.eq_iff_iff, spanB_iff, decide_eq_true_eq]
      omega
    · go_enter Try.func90, Try.ntmps90
      go_wp2
      go_ret
      exact ⟨ret_bool (by rw [spanB_false.2 (by omega)]), rfl⟩
  · go_enter Try.func90, Try.ntmps90
    go_wp2
    go_ret
    exact ⟨ret_bool (by rw [spanB_false.2 (by omega)]), rfl⟩
theorem Row.drew {w : World} {g : Nat} {t : TypeId} {cs : Array Value} (h : Row w g t cs) : Row w.drew g t cs := h
theorem below_drew {B : Nat} {a w : World} (h : Below B a w) : Below B a w.drew := ⟨h.os, h.tape, h.output, h.size, h.block⟩
def boxB (x y a b : Int) : Bool := spanB x a && spanB y b
set_option maxHeartbeats 400000 in
theorem boxed_any (x y a b : Int) (hx : i8B x) (hy : i8B y) (ha : i8B a) (hb : i8B b) (w : World) :
    Calls Try.prog 75 #[.agg (BX x y a b)] w fun e w' => e = .returned (.bool (boxB x y a b)) ∧ Below w.heap.size w w' := by
  have h0 := (Below.refl w.heap.size w).alloc (Nat.le_refl _) (.cells (BX x y a b) 61)
  unfold BX at *
  unfold i8B at *
  have wx : IntKind.i64.wrap x = x := by rw [IntKind.wrap_i64]; omega
  have wy : IntKind.i64.wrap y = y := by rw [IntKind.wrap_i64]; omega
  have wa : IntKind.i64.wrap a = a := by rw [IntKind.wrap_i64]; omega
  have wb : IntKind.i64.wrap b = b := by rw [IntKind.wrap_i64]; omega
  have sx : IntKind.i64.wrap (12 - x) = 12 - x := by rw [IntKind.wrap_i64]; omega
  have sy : IntKind.i64.wrap (12 - y) = 12 - y := by rw [IntKind.wrap_i64]; omega
  have key : boxB x y a b = (plB x y && inB a 1 (12 - x) && inB b 1 (12 - y)) := by
    rw [Bool.eq_iff_iff]
    simp only [boxB, Bool.and_eq_true, spanB_iff, plB_iff, inB_iff]
    omega
  cases hp : plB x y with
  | false =>
    rw [key, hp]
    have HP := Lib.hid hp
    clear key hp
    go_enter Try.func75, Try.ntmps75
    go_wp2_with (first | (go_at_call 66; refine (place_any _ _ _).mono ?_; rintro e w' ⟨rfl, rfl⟩; rw [HP.out]) | (go_at_call 62; refine (in_any _ _ _ _).mono ?_; rintro e w' ⟨rfl, rfl⟩))
    go_ret
    exact ⟨rfl, h0⟩
  | true =>
    cases h2 : inB a 1 (12 - x) with
    | false =>
      rw [key, hp, h2]
      have HP := Lib.hid hp
      have H2 := Lib.hid h2
      clear key hp h2
      go_enter Try.func75, Try.ntmps75
      go_wp2_with (first | (go_at_call 66; refine (place_any _ _ _).mono ?_; rintro e w' ⟨rfl, rfl⟩; rw [HP.out]) | (go_at_call 62; refine (in_any _ _ _ _).mono ?_; rintro e w' ⟨rfl, rfl⟩; (try rw [H2.out])))
      go_ret
      exact ⟨rfl, h0⟩
    | true =>
      rw [key, hp, h2]
      have HP := Lib.hid hp
      have H2 := Lib.hid h2
      clear key hp h2
      go_enter Try.func75, Try.ntmps75
      go_wp2_with (first | (go_at_call 66; refine (place_any _ _ _).mono ?_; rintro e w' ⟨rfl, rfl⟩; rw [HP.out]) | (go_at_call 62; refine (in_any _ _ _ _).mono ?_; rintro e w' ⟨rfl, rfl⟩; (try rw [H2.out])))
      go_ret
      exact ⟨ret_bool (by simp), h0⟩
def boxF (x y a b : Nat) : Nat → Nat := fun t => if y ≤ t ∧ t < y + b then (2 ^ a - 1) * 2 ^ x else 0
def boxTo (x y a k : Nat) : Nat → Nat := fun t => if y ≤ t ∧ t < k then (2 ^ a - 1) * 2 ^ x else 0
theorem fill_lt {x a : Nat} (h : x + a ≤ 12) : (2 ^ a - 1) * 2 ^ x < 4096 := by
  have h1 : (2 ^ a - 1) * 2 ^ x < 2 ^ a * 2 ^ x := by
    have : 0 < 2 ^ a := Nat.pow_pos (by decide)
    exact Nat.mul_lt_mul_of_pos_right (by omega) (Nat.pow_pos (by decide))
  rw [← Nat.pow_add] at h1
  exact Nat.lt_of_lt_of_le h1 (show 2 ^ (a + x) ≤ 2 ^ 12 from Nat.pow_le_pow_right (by decide) (by omega))
theorem fill_wrap {x a : Nat} (h : x + a ≤ 12) : IntKind.u16.wrap (IntKind.u16.wrap (IntKind.u16.wrap ((2 : Int) ^ a) - 1) * 2 ^ x) = (((2 ^ a - 1) * 2 ^ x : Nat) : Int) := by
  have h1 : 0 < 2 ^ a := Nat.pow_pos (by decide)
  have h2 : 2 ^ a < 65536 := pow_lt_16 (by omega)
  have h3 := fill_lt h
  rw [u16_wrap_pow (by omega), show ((2 ^ a : Nat) : Int) - 1 = ((2 ^ a - 1 : Nat) : Int) by omega, u16_wrap_nat (by omega), cast_pow,
    show ((2 ^ a - 1 : Nat) : Int) * ((2 ^ x : Nat) : Int) = (((2 ^ a - 1) * 2 ^ x : Nat) : Int) from (Int.natCast_mul _ _).symm, u16_wrap_nat (by omega)]
set_option maxHeartbeats 1000000 in
theorem filled_any (x y a b : Nat) (hx : x + a ≤ 12) (hy : y + b ≤ 12) (w : World) :
    Calls Try.prog 73 #[.agg (BX x y a b)] w fun e w' => e = .returned (.agg (FC (boxF x y a b))) ∧ Below w.heap.size w w' := by
  have r1 := ((Row.new w 61 (BX x y a b)).alloc (.cells (FC zeroF) 41)).alloc (.cells (FC zeroF) 41)
  have b2 := (Blk.new (w.alloc (.cells (BX x y a b) 61)) 41 zeroF).alloc (.cells (FC zeroF) 41)
  have b3 := Blk.new ((w.alloc (.cells (BX x y a b) 61)).alloc (.cells (FC zeroF) 41)) 41 zeroF
  rw [World.size_alloc] at b2
  rw [World.size_alloc, World.size_alloc] at b3
  have h0 := (((Below.refl w.heap.size w).alloc (Nat.le_refl _) (.cells (BX x y a b) 61)).alloc (by simp) (.cells (FC zeroF) 41)).alloc (by simp; omega) (.cells (FC zeroF) 41)
  rw [FC_zero] at r1 b2 b3 h0
  unfold BX at *
  go_enter Try.func73, Try.ntmps73
  go_wp2
  generalize ((w.alloc _).alloc _).alloc _ = w1 at *
  go_loopw [4] (fun i wr => ∃ k : Nat, y ≤ k ∧ k ≤ y + b ∧ i = .int .i8 k ∧ Row wr w.heap.size 61 #[.int .i8 x, .int .i8 y, .int .i8 a, .int .i8 b] ∧ Blk wr (w.heap.size + 1) 41 zeroF ∧ Blk wr (w.heap.size + 2) 41 (boxTo x y a k) ∧ Below w.heap.size w wr) (fun i _ => 24 - (intOf i).toNat)
  case atStart => exact ⟨y, Nat.le_refl _, by omega, rfl, r1, b2, b3.ext (by intro j hj; unfold boxTo zeroF; rw [if_neg (by omega)]), h0⟩
  case round =>
    obtain ⟨k, hk1, hk2, rfl, r1, b2, b3, hb⟩ := hrel
    have cx := r1.cell 0
    have cy := r1.cell 1
    have ca := r1.cell 2
    have cb := r1.cell 3
    simp at cx cy ca cb
    have wyb : IntKind.i8.wrap ((y : Int) + b) = ((y + b : Nat) : Int) := by simp [IntKind.wrap, IntKind.bits, IntKind.signed]; omega
    by_cases hlt : k < y + b
    · have c3 := b3.cell (show k < 12 by omega)
      have f3 := b3.free k
      have mixed : Try.prog.follows .mixedOrders = true := by kernel_rfl
      go_wp2_with fail
      go_region
      go_wp2
      rw [fill_wrap hx]
      go_roundw
      case rel =>
        go_light
        refine ⟨k + 1, by omega, by omega, by go_num, Row.drew (Row.other r1 _ (by show _ ≠ w.heap.size + 1 + 1; omega)), (b2.other _ (by show _ ≠ w.heap.size + 1 + 1; omega)).drew, ((b3.set (show k < 12 by omega) _).drew).ext ?_, below_drew (hb.setCell (by show _ ≤ w.heap.size + 1 + 1; omega) _)⟩
        intro j hj
        unfold upd boxTo
        by_cases e : j = k
        · subst e; rw [if_pos rfl, if_pos (by omega)]
        · rw [if_neg e]
          by_cases h : y ≤ j ∧ j < k
          · rw [if_pos h, if_pos (by omega)]
          · rw [if_neg h, if_neg (by omega)]
      case measure => simp [intOf]; omega
    · have hke : k = y + b := by omega
      subst hke
      go_wp2_with (first | (refine wpList_load_fr rfl 41 39 _ rfl _ rfl b3 Try.underlying41 (by kernel_rfl) ?_) | (refine wpList_store_fr rfl 41 _ _ rfl _ rfl b2 rfl (by kernel_rfl) ?_))
      exact bodyPost_ret_fr (p := 2) (ty := 41) (e := 39) rfl rfl (b2.setRow _) Try.underlying41 (by kernel_rfl) rfl ⟨rfl, below_setRow hb (by omega) _⟩
end Go.Proofs.Ytjbjbdkmomkclaa
