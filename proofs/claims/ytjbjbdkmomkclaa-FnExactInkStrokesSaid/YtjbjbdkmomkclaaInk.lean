/- STROKES: the frame of strokes: spec and impl of InkStrokes. -/
import Derived.Test.YtjbjbdkmomkclaaLStk
import Derived.Test.YtjbjbdkmomkclaaBox
import Derived.Test.YtjbjbdkmomkclaaICutBox
import Derived.Test.YtjbjbdkmomkclaaIJoin
import Derived.Test.YtjbjbdkmomkclaaSMove
import Derived.Test.YtjbjbdkmomkclaaCellQ
namespace Go.Proofs.Ytjbjbdkmomkclaa
set_option maxRecDepth 100000
open Go.RowKit
set_option linter.unusedVariables false
set_option linter.unusedSimpArgs false
abbrev Sk := Int × Int × Int × Bool
def skW (s : Sk) : Int := if s.2.2.2 then 1 else s.2.2.1
def skH (s : Sk) : Int := if s.2.2.2 then s.2.2.1 else 1
/-- All dots of a stroke lie in the frame. -/
def inkB (s : Sk) : Bool := boxB s.1 s.2.1 (skW s) (skH s)
def strF (s : Sk) : Nat → Nat := boxF s.1.toNat s.2.1.toNat (skW s).toNat (skH s).toNat
/-- The first m dots of a stroke. -/
def parS (s : Sk) (m : Nat) : Nat → Nat := if s.2.2.2 then boxF s.1.toNat s.2.1.toNat 1 m else boxF s.1.toNat s.2.1.toNat m 1
def inkF (L : List Sk) : Nat → Nat → Nat
  | 0 => zeroF
  | k + 1 => joinF (inkF L k) (strF (skAt L k))
def inkOk (L : List Sk) : Bool := decide (∀ k, k < L.length → inkB (skAt L k) = true)
def inkC (L : List Sk) : Int := if 80 < L.length then 2 else if inkOk L then 0 else 2
theorem inkC_long {L : List Sk} (h : 80 < L.length) : inkC L = 2 := if_pos h
theorem inkC_bad {L : List Sk} {k : Nat} (hk : k < L.length) (h : inkB (skAt L k) = false) : inkC L = 2 := by
  unfold inkC
  split
  · rfl
  · rw [if_neg]
    intro e
    have := (of_decide_eq_true e) k hk
    rw [h] at this; cases this
theorem inkC_good {L : List Sk} (h : ¬ 80 < L.length) (he : ∀ k, k < L.length → inkB (skAt L k) = true) : inkC L = 0 := by
  unfold inkC
  rw [if_neg h, if_pos (show inkOk L = true from decide_eq_true he)]
theorem inkB_iff {s : Sk} : inkB s = true ↔ 0 ≤ s.1 ∧ 1 ≤ skW s ∧ skW s ≤ 12 - s.1 ∧ 0 ≤ s.2.1 ∧ 1 ≤ skH s ∧ skH s ≤ 12 - s.2.1 := by
  unfold inkB boxB
  rw [Bool.and_eq_true, spanB_iff, spanB_iff]
  constructor
  · rintro ⟨⟨a, b, c⟩, d, e, f⟩; exact ⟨a, b, c, d, e, f⟩
  · rintro ⟨a, b, c, d, e, f⟩; exact ⟨⟨a, b, c⟩, d, e, f⟩
theorem inkB_false {s : Sk} (h : ¬ (0 ≤ s.1 ∧ 1 ≤ skW s ∧ skW s ≤ 12 - s.1 ∧ 0 ≤ s.2.1 ∧ 1 ≤ skH s ∧ skH s ≤ 12 - s.2.1)) : inkB s = false := by
  cases hb : inkB s with
  | false => rfl
  | true => exact absurd (inkB_iff.1 hb) h
theorem strF_lt {s : Sk} (h : inkB s = true) (k : Nat) : strF s k < 65536 := by
  have := inkB_iff.1 h
  unfold strF boxF
  split
  · have := fill_lt (x := s.1.toNat) (a := (skW s).toNat) (by omega); omega
  · omega
theorem inkF_lt {L : List Sk} : ∀ {k : Nat}, (∀ j, j < k → inkB (skAt L j) = true) → ∀ y, inkF L k y < 65536
  | 0, _, y => zeroF_lt y
  | k + 1, h, y => joinF_lt (inkF_lt (fun j hj => h j (by omega))) (strF_lt (h k (by omega))) y
theorem parS_zero (f : Nat → Nat) (s : Sk) : joinF f (parS s 0) = f := by
  funext y
  unfold joinF parS boxF
  cases s.2.2.2
  · simp
  · simp only [if_true]
    rw [if_neg (by omega), Nat.or_zero]
theorem fill_step (X m : Nat) : (2 ^ m - 1) * 2 ^ X ||| 2 ^ (X + m) = (2 ^ (m + 1) - 1) * 2 ^ X := by
  have hp : 0 < 2 ^ m := Nat.pow_pos (by decide)
  have hx : 0 < 2 ^ X := Nat.pow_pos (by decide)
  have hlt : (2 ^ m - 1) * 2 ^ X < 2 ^ (X + m) := by
    rw [Nat.pow_add, Nat.mul_comm (2 ^ X)]
    exact Nat.mul_lt_mul_of_pos_right (by omega) hx
  have := Nat.two_pow_add_eq_or_of_lt hlt 1
  rw [Nat.mul_one] at this
  rw [Nat.or_comm, ← this, Nat.pow_add, Nat.pow_succ, Nat.sub_mul, Nat.sub_mul, Nat.one_mul, Nat.mul_comm (2 ^ X)]
  have : 2 ^ X ≤ 2 ^ m * 2 ^ X := Nat.le_mul_of_pos_left _ hp
  have e : 2 ^ m * 2 * 2 ^ X = 2 ^ m * 2 ^ X + 2 ^ m * 2 ^ X := by rw [Nat.mul_assoc, Nat.mul_comm 2, ← Nat.mul_assoc]; omega
  omega
theorem put_east (f : Nat → Nat) (X Y n m : Nat) (hp : plB ((X : Int) + (m : Int)) (Y : Int) = true) : putF (joinF f (parS ((X : Int), (Y : Int), (n : Int), false) m)) ((X : Int) + (m : Int)) (Y : Int) = joinF f (parS ((X : Int), (Y : Int), (n : Int), false) (m + 1)) := by
  unfold putF
  rw [if_pos hp]
  funext t
  have e1 : ((X : Int) + (m : Int)).toNat = X + m := by omega
  simp only [e1, upd, joinF, parS, boxF, Int.toNat_natCast, Bool.false_eq_true, if_false]
  by_cases h : t = Y
  · subst h
    rw [if_pos rfl, if_pos ⟨Nat.le_refl _, by omega⟩, if_pos ⟨Nat.le_refl _, by omega⟩, Nat.or_assoc, fill_step]
  · rw [if_neg h, if_neg (by omega), if_neg (by omega)]
theorem put_down (f : Nat → Nat) (X Y n m : Nat) (hp : plB (X : Int) ((Y : Int) + (m : Int)) = true) : putF (joinF f (parS ((X : Int), (Y : Int), (n : Int), true) m)) (X : Int) ((Y : Int) + (m : Int)) = joinF f (parS ((X : Int), (Y : Int), (n : Int), true) (m + 1)) := by
  unfold putF
  rw [if_pos hp]
  funext t
  have e1 : ((Y : Int) + (m : Int)).toNat = Y + m := by omega
  simp only [e1, upd, joinF, parS, boxF, Int.toNat_natCast, if_true]
  by_cases h : t = Y + m
  · subst h
    rw [if_pos rfl, if_neg (by omega), if_pos ⟨by omega, by omega⟩]
    simp
  · rw [if_neg h]
    by_cases h2 : Y ≤ t ∧ t < Y + m
    · rw [if_pos h2, if_pos ⟨h2.1, by omega⟩]
    · rw [if_neg h2, if_neg (by omega)]
theorem parS_lt {s : Sk} {m : Nat} (h : m = 0 ∨ (0 ≤ s.1 ∧ s.1 + (if s.2.2.2 then 1 else (m : Int)) ≤ 12)) (k : Nat) : parS s m k < 65536 := by
  unfold parS boxF
  cases hd : s.2.2.2 <;> simp only [hd, if_true, if_false, Bool.false_eq_true] at h ⊢ <;> split
  · rcases h with h | h
    · subst h; simp
    · have := fill_lt (x := s.1.toNat) (a := m) (by omega); omega
  · omega
  · rcases h with h | h
    · omega
    · have := fill_lt (x := s.1.toNat) (a := 1) (by omega); omega
  · omega
theorem parS_all {s : Sk} (h : 0 ≤ s.2.2.1) : parS s s.2.2.1.toNat = strF s := by
  unfold parS strF skW skH
  cases s.2.2.2 <;> rfl
set_option maxHeartbeats 4000000 in
theorem specInk_any (v : Value) (L : List Sk) (w : World) (hL : ltSk L) (h : SlAt eSk w w.heap.size v L) :
    Calls Try.prog 33 #[v] w fun e w' => e = .returned (.tuple #[.agg (FC (ifC (inkC L) (inkF L L.length))), .int .i64 (inkC L)]) ∧ Below w.heap.size w w' := by
  obtain ⟨A, c, rfl, h1, h2, hA⟩ := h
  unfold maxLen at h2
  have hbl : ∀ w, (Instr.build 41 #[]).run Try.prog w = .ok (.agg (FC zeroF)) w := build_fr
  have b4 := (Blk.new w 41 zeroF).alloc (.cells (FC zeroF) 41)
  have b5 := Blk.new (w.alloc (.cells (FC zeroF) 41)) 41 zeroF
  rw [World.size_alloc] at b5
  have h0 := ((Below.refl w.heap.size w).alloc (Nat.le_refl _) (.cells (FC zeroF) 41)).alloc (by simp) (.cells (FC zeroF) 41)
  have hfin : ∀ (hc : inkC L = 2), (.tuple #[.agg (FC zeroF), .int .i64 2] : Value) = .tuple #[.agg (FC (ifC (inkC L) (inkF L L.length))), .int .i64 (inkC L)] := fun hc => by rw [hc]; rfl
  have HFIN := Lib.hid hfin
  clear hfin
  rw [FC_zero] at b4 b5 h0
  by_cases h80 : 80 < L.length
  · have HC := Lib.hid (HFIN.out (inkC_long h80))
    clear hA
    go_enter Try.func33, Try.ntmps33
    go_wp2_with (first | (refine wpList_store_new (f0 := zeroF) (f := zeroF) rfl 41 _ _ rfl rfl rfl (by kernel_rfl) ?_; (try rw [FC_zero]); generalize ((w.alloc _).alloc _) = w1 at *) | (refine wpList_load_fr rfl 41 39 _ rfl _ rfl b5 Try.underlying41 (by kernel_rfl) ?_) | (refine wpList_store_fr (f := zeroF) rfl 41 _ _ rfl _ rfl b4 rfl (by kernel_rfl) ?_))
    exact bodyPost_ret_fr2 (p := 2) (u := 3) (ty := 41) (e := 39) rfl rfl (b4.setRow _) Try.underlying41 (by kernel_rfl) rfl ⟨congrArg Ending.returned HC.out, below_setRow h0 (by omega) _⟩
  · go_enter Try.func33, Try.ntmps33
    go_wp2_with (refine wpList_store_new (f0 := zeroF) (f := zeroF) rfl 41 _ _ rfl rfl rfl (by kernel_rfl) ?_; (try rw [FC_zero]); generalize ((w.alloc _).alloc _) = w1 at *)
    go_loopw [5] (fun i wr => ∃ k : Nat, k ≤ L.length ∧ i = .int .i64 k ∧ (∀ j, j < k → inkB (skAt L j) = true) ∧ Blk wr w.heap.size 41 zeroF ∧ Blk wr (w.heap.size + 1) 41 (inkF L k) ∧ Below w.heap.size w wr) (fun i _ => L.length - (intOf i).toNat)
    case atStart => exact ⟨0, by omega, rfl, by omega, b4, b5, h0⟩
    case round =>
      clear b4 b5 h0
      obtain ⟨k, hk, rfl, he, b4, b5, hb⟩ := hrel
      by_cases hlt : k < L.length
      · obtain ⟨b1, o1, rfl, hb1, r1⟩ := hA (by omega)
        have r := range_part r1 (skAt_get hlt)
        rw [eSk_n] at r
        have r : w.rangeAt b1 (o1 + k * 4) (SkC (skAt L k)).toList := r
        have hb2 := skAt_lt hL k
        have hfl := inkF_lt he
        have HBAD := Lib.hid (fun (h : inkB (skAt L k) = false) => HFIN.out (inkC_bad hlt h))
        have HE := Lib.hid (fun (h : inkB (skAt L k) = true) => (fun j (hj : j < k + 1) => by
          rcases Nat.lt_succ_iff_lt_or_eq.1 hj with h' | rfl
          · exact he j h'
          · exact h : ∀ j, j < k + 1 → inkB (skAt L j) = true))
        have HN := Lib.hid (show inkF L (k + 1) = joinF (inkF L k) (strF (skAt L k)) from rfl)
        clear hA r1 he
        generalize hs : skAt L k = s at *
        have HS := Lib.hid hs
        clear hs
        obtain ⟨x, y, n, d⟩ := s
        unfold ltSk1 at hb2
        simp only at hb2
        have wx : IntKind.i64.wrap x = x := IntWalk.i64_in _ (by omega)
        have wy : IntKind.i64.wrap y = y := IntWalk.i64_in _ (by omega)
        have wn : IntKind.i64.wrap n = n := IntWalk.i64_in _ (by omega)
        have g := range_below r hb hb1
        have c0 := sk_cell0 g
        have c1 := sk_cell1 g
        have c2 := sk_cell2 g
        simp only at c0 c1 c2
        clear g
        by_cases hn1 : n < 1
        · have HC := Lib.hid (HBAD.out (inkB_false (by unfold skW skH; cases d <;> simp <;> omega)))
          clear HBAD HE HN
          go_wp2_with (refine wpList_store_fr (f := zeroF) rfl 41 _ _ rfl _ rfl b4 rfl (by kernel_rfl) ?_)
          exact bodyPost_ret_fr2 (p := 2) (u := 3) (ty := 41) (e := 39) rfl rfl (b4.setRow _) Try.underlying41 (by kernel_rfl) rfl ⟨congrArg Ending.returned HC.out, below_setRow hb (by omega) _⟩
        · have HB0 := Lib.hid hb
          cases d
          · go_wp2
            clear c0 c1 c2
            go_loopw [6, 7, 8] (fun xx yy nn wr => ∃ m : Nat, (m : Int) ≤ n ∧ nn = .int .i64 m ∧ xx = .int .i64 (x + (m : Int)) ∧ yy = .int .i64 (y) ∧ (m = 0 ∨ (0 ≤ x ∧ x + (m : Int) ≤ 12 ∧ 0 ≤ y ∧ y ≤ 11)) ∧ Blk wr w.heap.size 41 zeroF ∧ Blk wr (w.heap.size + 1) 41 (joinF (inkF L k) (parS (x, y, n, false) m)) ∧ Below w.heap.size w wr) (fun _ _ nn _ => n.toNat - (intOf nn).toNat)
            case atStart => exact ⟨0, by omega, rfl, by simp, by simp, .inl rfl, b4, by rw [parS_zero]; exact b5, hb⟩
            case round =>
              clear b4 b5 hb
              obtain ⟨m, hm, rfl, rfl, rfl, hcd, b4, b5, hb⟩ := hrel
              have g := range_below r hb hb1
              have c2 := sk_cell2 g
              have c3 := sk_cell3 g
              simp only at c2 c3
              clear g
              by_cases hlm : (m : Int) < n
              · cases hp : plB (x + (m : Int)) (y) with
                | false =>
                  have HC := Lib.hid (HBAD.out (inkB_false (by have := plB_false.1 hp; unfold skW skH; simp; omega)))
                  clear HBAD HE HN
                  go_wp2_with (first | (go_at_call 66; refine (place_any _ _ _).mono ?_; rintro e w2 ⟨rfl, rfl⟩; rw [hp]) | (refine wpList_store_fr (f := zeroF) rfl 41 _ _ rfl _ rfl b4 rfl (by kernel_rfl) ?_))
                  exact bodyPost_ret_fr2 (p := 2) (u := 3) (ty := 41) (e := 39) rfl rfl (b4.setRow _) Try.underlying41 (by kernel_rfl) rfl ⟨congrArg Ending.returned HC.out, below_setRow hb (by omega) _⟩
                | true =>
                  have hp1 := plB_iff.1 hp
                  have hx0 : 0 ≤ x := by omega
                  have hy0 : 0 ≤ y := by omega
                  obtain ⟨X, rfl⟩ := Int.eq_ofNat_of_zero_le hx0
                  obtain ⟨Y, rfl⟩ := Int.eq_ofNat_of_zero_le hy0
                  obtain ⟨N, rfl⟩ := Int.eq_ofNat_of_zero_le (show 0 ≤ n by omega)
                  have hput := put_east (inkF L k) X Y N m hp
                  have hjl : ∀ t, joinF (inkF L k) (parS ((X : Int), (Y : Int), (N : Int), false) m) t < 65536 := joinF_lt hfl (parS_lt (by rcases hcd with h | h; exact .inl h; exact .inr ⟨by simp, by simp; omega⟩))
                  have kx : IntKind.i64.wrap (((X : Int) + (m : Int)) + 1) = (X : Int) + ((m + 1 : Nat) : Int) := by rw [IntWalk.i64_in _ (by omega)]; omega
                  have ky : IntKind.i64.wrap (((Y : Int)) + 1) = (Y : Int) + 1 := by rw [IntWalk.i64_in _ (by omega)]
                  have kn : IntKind.i64.wrap ((m : Int) + 1) = ((m + 1 : Nat) : Int) := by rw [IntWalk.i64_in _ (by omega)]; omega
                  have hr2 := range_below r hb hb1
                  have HR2 := Lib.hid hr2
                  have HPUT := Lib.hid hput
                  have HP := Lib.hid hp
                  clear hr2 hput hp HBAD HE HN hfl
                  go_wp2_with (first | (go_at_call 66; refine (place_any _ _ _).mono ?_; rintro e w2 ⟨rfl, rfl⟩; rw [HP.out]) | (go_at_call 67; refine (put_any _ _ _ _ _ hjl b5).mono ?_; rintro e w2 ⟨rfl, hw2, b6⟩; rw [HPUT.out] at b6; replace b4 := hw2.row b4 (by omega); replace hb := hw2.below hb (by omega) hb.size; clear c2 c3; have g := range_below r hb hb1; have c3 := sk_cell3 g; simp only at c3; clear g))
                  go_roundw
                  case rel =>
                    go_light
                    exact ⟨m + 1, by omega, rfl, by first | rfl | simp, by first | rfl | simp, .inr (by omega), b4, b6, hb⟩
                  case measure => simp [intOf]; omega
              · have hmn : (m : Int) = n := by omega
                have hgood : inkB (x, y, n, false) = true := inkB_iff.2 (by unfold skW skH; simp; omega)
                have hall : parS (x, y, n, false) m = strF (x, y, n, false) := by
                  have h9 := parS_all (s := (x, y, n, false)) (by show 0 ≤ n; omega)
                  rw [← h9]
                  congr 1
                  show m = n.toNat
                  omega
                rw [hall, ← HN.out] at b5
                have HG := Lib.hid (HE.out hgood)
                clear HBAD HE HN hall hgood hfl
                go_wp2
                go_roundw
                case rel =>
                  go_light
                  exact ⟨k + 1, by omega, by go_num, HG.out, b4, b5, hb⟩
                case measure => simp [intOf]; omega
          · go_wp2
            clear c0 c1 c2
            go_loopw [6, 7, 8] (fun xx yy nn wr => ∃ m : Nat, (m : Int) ≤ n ∧ nn = .int .i64 m ∧ xx = .int .i64 (x) ∧ yy = .int .i64 (y + (m : Int)) ∧ (m = 0 ∨ (0 ≤ x ∧ x + 1 ≤ 12 ∧ 0 ≤ y ∧ y + (m : Int) ≤ 12)) ∧ Blk wr w.heap.size 41 zeroF ∧ Blk wr (w.heap.size + 1) 41 (joinF (inkF L k) (parS (x, y, n, true) m)) ∧ Below w.heap.size w wr) (fun _ _ nn _ => n.toNat - (intOf nn).toNat)
            case atStart => exact ⟨0, by omega, rfl, by simp, by simp, .inl rfl, b4, by rw [parS_zero]; exact b5, hb⟩
            case round =>
              clear b4 b5 hb
              obtain ⟨m, hm, rfl, rfl, rfl, hcd, b4, b5, hb⟩ := hrel
              have g := range_below r hb hb1
              have c2 := sk_cell2 g
              have c3 := sk_cell3 g
              simp only at c2 c3
              clear g
              by_cases hlm : (m : Int) < n
              · cases hp : plB (x) (y + (m : Int)) with
                | false =>
                  have HC := Lib.hid (HBAD.out (inkB_false (by have := plB_false.1 hp; unfold skW skH; simp; omega)))
                  clear HBAD HE HN
                  go_wp2_with (first | (go_at_call 66; refine (place_any _ _ _).mono ?_; rintro e w2 ⟨rfl, rfl⟩; rw [hp]) | (refine wpList_store_fr (f := zeroF) rfl 41 _ _ rfl _ rfl b4 rfl (by kernel_rfl) ?_))
                  exact bodyPost_ret_fr2 (p := 2) (u := 3) (ty := 41) (e := 39) rfl rfl (b4.setRow _) Try.underlying41 (by kernel_rfl) rfl ⟨congrArg Ending.returned HC.out, below_setRow hb (by omega) _⟩
                | true =>
                  have hp1 := plB_iff.1 hp
                  have hx0 : 0 ≤ x := by omega
                  have hy0 : 0 ≤ y := by omega
                  obtain ⟨X, rfl⟩ := Int.eq_ofNat_of_zero_le hx0
                  obtain ⟨Y, rfl⟩ := Int.eq_ofNat_of_zero_le hy0
                  obtain ⟨N, rfl⟩ := Int.eq_ofNat_of_zero_le (show 0 ≤ n by omega)
                  have hput := put_down (inkF L k) X Y N m hp
                  have hjl : ∀ t, joinF (inkF L k) (parS ((X : Int), (Y : Int), (N : Int), true) m) t < 65536 := joinF_lt hfl (parS_lt (by rcases hcd with h | h; exact .inl h; exact .inr ⟨by simp, by simp; omega⟩))
                  have kx : IntKind.i64.wrap (((X : Int)) + 1) = (X : Int) + 1 := by rw [IntWalk.i64_in _ (by omega)]
                  have ky : IntKind.i64.wrap (((Y : Int) + (m : Int)) + 1) = (Y : Int) + ((m + 1 : Nat) : Int) := by rw [IntWalk.i64_in _ (by omega)]; omega
                  have kn : IntKind.i64.wrap ((m : Int) + 1) = ((m + 1 : Nat) : Int) := by rw [IntWalk.i64_in _ (by omega)]; omega
                  have hr2 := range_below r hb hb1
                  have HR2 := Lib.hid hr2
                  have HPUT := Lib.hid hput
                  have HP := Lib.hid hp
                  clear hr2 hput hp HBAD HE HN hfl
                  go_wp2_with (first | (go_at_call 66; refine (place_any _ _ _).mono ?_; rintro e w2 ⟨rfl, rfl⟩; rw [HP.out]) | (go_at_call 67; refine (put_any _ _ _ _ _ hjl b5).mono ?_; rintro e w2 ⟨rfl, hw2, b6⟩; rw [HPUT.out] at b6; replace b4 := hw2.row b4 (by omega); replace hb := hw2.below hb (by omega) hb.size; clear c2 c3; have g := range_below r hb hb1; have c3 := sk_cell3 g; simp only at c3; clear g))
                  go_roundw
                  case rel =>
                    go_light
                    exact ⟨m + 1, by omega, rfl, by first | rfl | simp, by first | rfl | simp, .inr (by omega), b4, b6, hb⟩
                  case measure => simp [intOf]; omega
              · have hmn : (m : Int) = n := by omega
                have hgood : inkB (x, y, n, true) = true := inkB_iff.2 (by unfold skW skH; simp; omega)
                have hall : parS (x, y, n, true) m = strF (x, y, n, true) := by
                  have h9 := parS_all (s := (x, y, n, true)) (by show 0 ≤ n; omega)
                  rw [← h9]
                  congr 1
                  show m = n.toNat
                  omega
                rw [hall, ← HN.out] at b5
                have HG := Lib.hid (HE.out hgood)
                clear HBAD HE HN hall hgood hfl
                go_wp2
                go_roundw
                case rel =>
                  go_light
                  exact ⟨k + 1, by omega, by go_num, HG.out, b4, b5, hb⟩
                case measure => simp [intOf]; omega
      · have hkl : k = L.length := by omega
        subst hkl
        have hc := inkC_good h80 he
        have hfin : (.tuple #[.agg (FC (inkF L L.length)), .int .i64 0] : Value) = .tuple #[.agg (FC (ifC (inkC L) (inkF L L.length))), .int .i64 (inkC L)] := by rw [hc]; rfl
        have HC := Lib.hid hfin
        clear hA hfin hc
        go_wp2_with (first | (refine wpList_load_fr rfl 41 39 _ rfl _ rfl b5 Try.underlying41 (by kernel_rfl) ?_) | (refine wpList_store_fr rfl 41 _ _ rfl _ rfl b4 rfl (by kernel_rfl) ?_))
        exact bodyPost_ret_fr2 (p := 2) (u := 3) (ty := 41) (e := 39) rfl rfl (b4.setRow _) Try.underlying41 (by kernel_rfl) rfl ⟨congrArg Ending.returned HC.out, below_setRow hb (by omega) _⟩
end Go.Proofs.Ytjbjbdkmomkclaa
