import Derived.Test.YtajlkleoincoeacDoorM8
import Derived.Test.YtajlkleoincoeacDoorM1
import Derived.Test.YtajlkleoincoeacDoorM3
import Derived.Test.YtajlkleoincoeacDoorM2
import Derived.Test.YtajlkleoincoeacDoorM6
import Derived.Laws.StructEq
import Derived.Test.YtajlkleoincoeacDoorM7
/- PLACES OF TRACKS, PLAINLY. No program is named. -/
namespace Go.Proofs.YtajlkleoincoeacDoor
/-- How many keys, from the first one on, are at the tick or ahead of it. -/
def nxt : List (Int × Int × Int) → Int → Nat
  | [], _ => 0
  | k :: L, t => if k.1 ≤ t then nxt L t + 1 else 0
theorem nxt_le : ∀ (L : List (Int × Int × Int)) (t : Int), nxt L t ≤ L.length
  | [], _ => Nat.le_refl _
  | k :: L, t => by have := nxt_le L t; unfold nxt; split <;> simp <;> omega
theorem nxt_lo : ∀ (L : List (Int × Int × Int)) (t : Int) (j : Nat), j < nxt L t → (kAt L j).1 ≤ t
  | [], _, j, h => by simp [nxt] at h
  | k :: L, t, j, h => by
    unfold nxt at h
    split at h
    · rename_i hk
      cases j with
      | zero => exact hk
      | succ j => have := nxt_lo L t j (by omega); simpa [kAt] using this
    · omega
theorem nxt_hi : ∀ (L : List (Int × Int × Int)) (t : Int), nxt L t < L.length → t < (kAt L (nxt L t)).1
  | [], _, h => by simp [nxt] at h
  | k :: L, t, h => by
    by_cases hk : k.1 ≤ t
    · have he : nxt (k :: L) t = nxt L t + 1 := by simp [nxt, hk]
      rw [he] at h ⊢
      have := nxt_hi L t (by simpa using h)
      simpa [kAt] using this
    · have he : nxt (k :: L) t = 0 := by simp [nxt, hk]
      rw [he]
      show t < k.1
      omega
/-- What tells it. -/
theorem nxt_eq {L : List (Int × Int × Int)} {t : Int} {n : Nat} (hn : n ≤ L.length) (hlo : ∀ j, j < n → (kAt L j).1 ≤ t) (hhi : n < L.length → t < (kAt L n).1) : nxt L t = n := by
  rcases Nat.lt_trichotomy (nxt L t) n with h | h | h
  · have := nxt_hi L t (by omega)
    have := hlo _ h
    omega
  · exact h
  · have := nxt_lo L t n h
    have := hhi (by have := nxt_le L t; omega)
    omega
/-- The place at a tick, as a key. -/
def plK (L : List (Int × Int × Int)) (e t : Int) : Int × Int × Int :=
  if nxt L t = 0 then (t, (kAt L 0).2)
  else if nxt L t = L.length then (t, (kAt L (L.length - 1)).2)
  else (t, betI (kAt L (nxt L t - 1)).2.1 (kAt L (nxt L t)).2.1 (shareI e (t - (kAt L (nxt L t - 1)).1) ((kAt L (nxt L t)).1 - (kAt L (nxt L t - 1)).1)),
    betI (kAt L (nxt L t - 1)).2.2 (kAt L (nxt L t)).2.2 (shareI e (t - (kAt L (nxt L t - 1)).1) ((kAt L (nxt L t)).1 - (kAt L (nxt L t - 1)).1)))
theorem plK_fst (L : List (Int × Int × Int)) (e t : Int) : (plK L e t).1 = t := by unfold plK; split <;> (try split) <;> rfl
theorem plK_ahead {L : List (Int × Int × Int)} {e t : Int} (h : nxt L t = 0) : plK L e t = (t, (kAt L 0).2) := if_pos h
theorem plK_behind {L : List (Int × Int × Int)} {e t : Int} (h0 : 0 < L.length) (h : nxt L t = L.length) : plK L e t = (t, (kAt L (L.length - 1)).2) := by
  unfold plK; rw [if_neg (by omega), if_pos h]
theorem plK_mid {L : List (Int × Int × Int)} {e t : Int} {i : Nat} (h : nxt L t = i + 1) (hl : i + 1 < L.length) :
    plK L e t = (t, betI (kAt L i).2.1 (kAt L (i + 1)).2.1 (shareI e (t - (kAt L i).1) ((kAt L (i + 1)).1 - (kAt L i).1)), betI (kAt L i).2.2 (kAt L (i + 1)).2.2 (shareI e (t - (kAt L i).1) ((kAt L (i + 1)).1 - (kAt L i).1))) := by
  unfold plK; rw [if_neg (by omega), if_neg (by omega), h]; rfl
/-- On a key: its place. -/
theorem plK_on {L : List (Int × Int × Int)} {e t : Int} {i : Nat} (h : nxt L t = i + 1) (hl : i + 1 < L.length) (ht : t = (kAt L i).1) (hup : (kAt L i).1 < (kAt L (i + 1)).1) : plK L e t = (t, (kAt L i).2) := by
  rw [plK_mid h hl, ht, Int.sub_self, shareI_zero (by omega), betI_zero, betI_zero]
/-- The share of the way between two keys. -/
theorem seg_share {L : List (Int × Int × Int)} {t : Int} {i : Nat} (h : nxt L t = i + 1) (hl : i + 1 < L.length) : 0 ≤ t - (kAt L i).1 ∧ t - (kAt L i).1 ≤ (kAt L (i + 1)).1 - (kAt L i).1 ∧ 1 ≤ (kAt L (i + 1)).1 - (kAt L i).1 := by
  have h1 := nxt_lo L t i (by omega)
  have h2 := nxt_hi L t (by omega)
  rw [h] at h2
  omega
theorem plK_in {L : List (Int × Int × Int)} (ho : okT L = true) (e t : Int) : (-24 ≤ (plK L e t).2.1 ∧ (plK L e t).2.1 ≤ 24) ∧ -24 ≤ (plK L e t).2.2 ∧ (plK L e t).2.2 ≤ 24 := by
  have hlen := (okT_iff.1 ho).1
  by_cases h0 : nxt L t = 0
  · rw [plK_ahead h0]; exact (okT_key ho (i := 0) (by omega)).2
  · by_cases h1 : nxt L t = L.length
    · rw [plK_behind (by omega) h1]; exact (okT_key ho (i := L.length - 1) (by omega)).2
    · have hl := nxt_le L t
      obtain ⟨i, hi⟩ : ∃ i, nxt L t = i + 1 := ⟨nxt L t - 1, by omega⟩
      have hs := seg_share (L := L) (t := t) hi (by omega)
      have hb := shareI_bounds (e := e) ⟨hs.1, hs.2.1⟩ hs.2.2
      have k1 := (okT_key ho (i := i) (by omega)).2
      have k2 := (okT_key ho (i := i + 1) (by omega)).2
      rw [plK_mid hi (by omega)]
      exact ⟨betI_bounds k1.1 k2.1 hb, betI_bounds k1.2 k2.2 hb⟩
/-- The last key at the tick or ahead of it, or the first one: what the place is. -/
theorem plK_end {L : List (Int × Int × Int)} (ho : okT L = true) {e t : Int} {i : Nat} (hi : i < L.length) (hlo : ∀ j, 0 < j → j ≤ i → (kAt L j).1 ≤ t) (hhi : i + 1 < L.length → t < (kAt L (i + 1)).1) (h : i + 1 = L.length ∨ t ≤ (kAt L i).1) : (plK L e t).2 = (kAt L i).2 := by
  by_cases h0 : t < (kAt L 0).1
  · have hi0 : i = 0 := by
      apply Classical.byContradiction
      intro hne
      have h1 := hlo i (by omega) (Nat.le_refl _)
      have h2 := okT_lt ho (i := 0) (j := i) (by omega) hi
      omega
    subst hi0
    rw [plK_ahead (nxt_eq (Nat.zero_le _) (by omega) (fun _ => h0))]
  · have hlo' : ∀ j, j < i + 1 → (kAt L j).1 ≤ t := fun j hj => by
      by_cases hj0 : j = 0
      · subst hj0; omega
      · exact hlo j (by omega) (by omega)
    have hn : nxt L t = i + 1 := nxt_eq (by omega) hlo' hhi
    by_cases hl : i + 1 = L.length
    · rw [plK_behind (by omega) (hn.trans hl), show L.length - 1 = i by omega]
    · have := hlo' i (by omega)
      rw [plK_on hn (by omega) (by omega) (okT_up ho (by omega))]
theorem plK_way {L : List (Int × Int × Int)} (ho : okT L = true) {t : Int} {i : Nat} (hi : i + 1 < L.length) (hlo : ∀ j, 0 < j → j ≤ i → (kAt L j).1 ≤ t) (hhi : t < (kAt L (i + 1)).1) (h : (kAt L i).1 < t) : nxt L t = i + 1 :=
  nxt_eq (by omega) (fun j hj => by
    by_cases hj0 : j = i
    · subst hj0; omega
    · have := okT_lt ho (i := j) (j := i) (by omega) (by omega); omega) (fun _ => hhi)
/-- The code of a track and an ease, and whether numbers are as told. -/
def wyC (L : List (Int × Int × Int)) (e : Int) (f : Bool) : Int := if okT L then (if inB e 0 3 && f then 0 else 2) else 1
theorem wyC_cases (L : List (Int × Int × Int)) (e : Int) (f : Bool) : (okT L = false ∧ wyC L e f = 1) ∨ (okT L = true ∧ inB e 0 3 = false ∧ wyC L e f = 2) ∨ (okT L = true ∧ inB e 0 3 = true ∧ f = false ∧ wyC L e f = 2) ∨ (okT L = true ∧ inB e 0 3 = true ∧ f = true ∧ wyC L e f = 0) := by
  unfold wyC; cases okT L <;> cases inB e 0 3 <;> cases f <;> simp
def paX (L : List (Int × Int × Int)) (e t : Int) : Int := ifI (wyC L e (inB t 0 200)) (plK L e t).2.1
def paY (L : List (Int × Int × Int)) (e t : Int) : Int := ifI (wyC L e (inB t 0 200)) (plK L e t).2.2
end Go.Proofs.YtajlkleoincoeacDoor

/- TRACKS: when a track is valid. spec: l03Tick, l03Reach, l03Ok, ValidTrack; impl: isTick, isWithin, ValidTrack. TicksOf: both. -/
namespace Go.Proofs.YtajlkleoincoeacDoor
set_option maxRecDepth 100000
open Go.RowKit
set_option linter.unusedVariables false
set_option linter.unusedSimpArgs false
theorem specTick_any (z : Int) (w : World) : Calls Tryd.prog 38 #[.int .i64 z] w fun e w' => e = .returned (.bool (inB z 0 200)) ∧ w = w' := by
  go_enter Tryd.func38, Tryd.ntmps38
  go_wp2_with (go_at_call 73; refine (in_any _ _ _ _).mono ?_; rintro e w' ⟨rfl, rfl⟩)
  go_ret
  exact ⟨rfl, rfl⟩
theorem specReach_any (z : Int) (w : World) : Calls Tryd.prog 92 #[.int .i64 z] w fun e w' => e = .returned (.bool (inB z (-24) 24)) ∧ w = w' := by
  go_enter Tryd.func92, Tryd.ntmps92
  go_wp2_with (go_at_call 73; refine (in_any _ _ _ _).mono ?_; rintro e w' ⟨rfl, rfl⟩)
  go_ret
  exact ⟨rfl, rfl⟩
set_option maxHeartbeats 1000000 in
theorem specOkT_any (v : Value) (L : List (Int × Int × Int)) (w : World) (hL : ltK L) (h : SlAt eKy w w.heap.size v L) :
    Calls Tryd.prog 48 #[v] w fun e w' => e = .returned (.bool (okT L)) ∧ Below w.heap.size w w' := by
  obtain ⟨A, c, rfl, h1, h2, hA⟩ := h
  unfold maxLen at h2
  go_enter Tryd.func48, Tryd.ntmps48
  go_wp2
  go_loopw [3] (fun i wr => ∃ k : Nat, k ≤ L.length ∧ i = .int .i64 k ∧ (∀ j, j < k → stepK L j = true) ∧ Below w.heap.size w wr) (fun i _ => L.length - (intOf i).toNat)
  case atStart => exact ⟨0, by omega, rfl, by omega, Below.refl _ _⟩
  case round =>
    obtain ⟨k, hk, rfl, he, hb⟩ := hrel
    have HE := Lib.hid he
    clear he
    by_cases hlt : k < L.length
    · obtain ⟨b1, o1, rfl, hb1, r1⟩ := hA (by omega)
      have g1 := range_below (range_part r1 (kAt_get hlt)) hb hb1
      rw [eKy_n] at g1
      have c0 := ky_cell0 g1
      have c1 := ky_cell1 g1
      have c2 := ky_cell2 g1
      have hl := kAt_lt hL k
      have hx0 := hl.1
      have hx1 := hl.2.1
      have hx2 := hl.2.2
      have HT := Lib.hid (fun h => stepK_in (L := L) (i := k) (inK_t h))
      have HX := Lib.hid (fun h => stepK_in (L := L) (i := k) (inK_x h))
      have HY := Lib.hid (fun h => stepK_in (L := L) (i := k) (inK_y h))
      have HI := Lib.hid (fun h h2 h3 => inK_ok (k := kAt L k) h h2 h3)
      have HU := Lib.hid (fun h0 h => stepK_up (L := L) (i := k) h0 h)
      have HO := Lib.hid (fun h h2 => stepK_ok (L := L) (i := k) h h2)
      have cT := fun w => specTick_any (kAt L k).1 w
      have cX := fun w => specReach_any (kAt L k).2.1 w
      have cY := fun w => specReach_any (kAt L k).2.2 w
      by_cases hk0 : k = 0
      · subst hk0
        simp only [Nat.zero_mul, Nat.add_zero] at c0 c1 c2
        clear hl g1 r1 hA
        generalize (kAt L 0).1 = t at *
        generalize (kAt L 0).2.1 = x at *
        generalize (kAt L 0).2.2 = y at *
        have k0 : IntKind.i64.wrap t = t := IntWalk.i64_in _ (by omega)
        have k1 : IntKind.i64.wrap x = x := IntWalk.i64_in _ (by omega)
        have k2 : IntKind.i64.wrap y = y := IntWalk.i64_in _ (by omega)
        cases hT : inB t 0 200 with
        | false =>
          rw [hT] at cT
          have HF := Lib.hid (HT.out hT)
          clear hT HT HX HY HI HU HO cX cY
          go_wp2_with (go_at_call 38; refine (cT _).mono ?_; rintro e w9 ⟨rfl, rfl⟩)
          go_ret
          exact ⟨ret_bool (okT_at hlt HF.out).symm, hb⟩
        | true =>
          rw [hT] at cT
          cases hX : inB x (-24) 24 with
          | false =>
            rw [hX] at cX
            have HF := Lib.hid (HX.out hX)
            clear hT hX HT HX HY HI HU HO cY
            go_wp2_with (first | (go_at_call 38; refine (cT _).mono ?_; rintro e w9 ⟨rfl, rfl⟩) | (go_at_call 92; refine (cX _).mono ?_; rintro e w9 ⟨rfl, rfl⟩))
            go_ret
            exact ⟨ret_bool (okT_at hlt HF.out).symm, hb⟩
          | true =>
            rw [hX] at cX
            cases hY : inB y (-24) 24 with
            | false =>
              rw [hY] at cY
              have HF := Lib.hid (HY.out hY)
              clear hT hX hY HT HX HY HI HU HO
              go_wp2_with (first | (go_at_call 38; refine (cT _).mono ?_; rintro e w9 ⟨rfl, rfl⟩) | (go_at_call 92; first | (refine (cX _).mono ?_; rintro e w9 ⟨rfl, rfl⟩; clear cX) | (refine (cY _).mono ?_; rintro e w9 ⟨rfl, rfl⟩; clear cY)))
              go_ret
              exact ⟨ret_bool (okT_at hlt HF.out).symm, hb⟩
            | true =>
              rw [hY] at cY
              have HF := Lib.hid (HO.out (HI.out hT hX hY) (by omega))
              clear hT hX hY HT HX HY HI HU HO
              go_wp2_with (first | (go_at_call 38; refine (cT _).mono ?_; rintro e w9 ⟨rfl, rfl⟩) | (go_at_call 92; first | (refine (cX _).mono ?_; rintro e w9 ⟨rfl, rfl⟩; clear cX) | (refine (cY _).mono ?_; rintro e w9 ⟨rfl, rfl⟩; clear cY)))
              go_region
              go_wp2
              go_roundw
              case rel =>
                go_light
                refine ⟨1, by omega, by first | rfl | go_num, ?_, hb.drew⟩
                intro j hj
                obtain rfl : j = 0 := by omega
                exact HF.out
              case measure => simp [intOf]; omega
      · have g0 := range_below (range_part r1 (kAt_get (i := k - 1) (by omega))) hb hb1
        rw [eKy_n] at g0
        have c3 := ky_cell0 g0
        have hlp := (kAt_lt hL (k - 1)).1
        have hoff : o1 + ((k - 1 : Nat)) * 3 = o1 + k * 3 - 3 := by omega
        obtain ⟨m, rfl⟩ : ∃ m, k = m + 1 := ⟨k - 1, by omega⟩
        rw [Nat.add_sub_cancel] at c3 hlp HU HO
        clear hl g1 g0 r1 hA hoff
        generalize (kAt L (m + 1)).1 = t at *
        generalize (kAt L (m + 1)).2.1 = x at *
        generalize (kAt L (m + 1)).2.2 = y at *
        generalize (kAt L m).1 = s at *
        have k0 : IntKind.i64.wrap t = t := IntWalk.i64_in _ (by omega)
        have k1 : IntKind.i64.wrap x = x := IntWalk.i64_in _ (by omega)
        have k2 : IntKind.i64.wrap y = y := IntWalk.i64_in _ (by omega)
        cases hT : inB t 0 200 with
        | false =>
          rw [hT] at cT
          have HF := Lib.hid (HT.out hT)
          clear hT HT HX HY HI HU HO cX cY
          go_wp2_with (go_at_call 38; refine (cT _).mono ?_; rintro e w9 ⟨rfl, rfl⟩)
          go_ret
          exact ⟨ret_bool (okT_at hlt HF.out).symm, hb⟩
        | true =>
          rw [hT] at cT
          cases hX : inB x (-24) 24 with
          | false =>
            rw [hX] at cX
            have HF := Lib.hid (HX.out hX)
            clear hT hX HT HX HY HI HU HO cY
            go_wp2_with (first | (go_at_call 38; refine (cT _).mono ?_; rintro e w9 ⟨rfl, rfl⟩) | (go_at_call 92; refine (cX _).mono ?_; rintro e w9 ⟨rfl, rfl⟩))
            go_ret
            exact ⟨ret_bool (okT_at hlt HF.out).symm, hb⟩
          | true =>
            rw [hX] at cX
            cases hY : inB y (-24) 24 with
            | false =>
              rw [hY] at cY
              have HF := Lib.hid (HY.out hY)
              clear hT hX hY HT HX HY HI HU HO
              go_wp2_with (first | (go_at_call 38; refine (cT _).mono ?_; rintro e w9 ⟨rfl, rfl⟩) | (go_at_call 92; first | (refine (cX _).mono ?_; rintro e w9 ⟨rfl, rfl⟩; clear cX) | (refine (cY _).mono ?_; rintro e w9 ⟨rfl, rfl⟩; clear cY)))
              go_ret
              exact ⟨ret_bool (okT_at hlt HF.out).symm, hb⟩
            | true =>
              rw [hY] at cY
              by_cases hup : t ≤ s
              · have HF := Lib.hid (HU.out (by omega) hup)
                have eu : decide (t ≤ s) = true := decide_eq_true hup
                clear hT hX hY HT HX HY HI HU HO
                go_wp2_with (first | (go_at_call 38; refine (cT _).mono ?_; rintro e w9 ⟨rfl, rfl⟩) | (go_at_call 92; first | (refine (cX _).mono ?_; rintro e w9 ⟨rfl, rfl⟩; clear cX) | (refine (cY _).mono ?_; rintro e w9 ⟨rfl, rfl⟩; clear cY)))
                go_region
                go_wp2
                go_ret
                exact ⟨ret_bool (okT_at hlt HF.out).symm, hb.drew⟩
              · have HF := Lib.hid (HO.out (HI.out hT hX hY) (fun _ => by omega))
                have eu : decide (t ≤ s) = false := decide_eq_false hup
                clear hT hX hY HT HX HY HI HU HO
                go_wp2_with (first | (go_at_call 38; refine (cT _).mono ?_; rintro e w9 ⟨rfl, rfl⟩) | (go_at_call 92; first | (refine (cX _).mono ?_; rintro e w9 ⟨rfl, rfl⟩; clear cX) | (refine (cY _).mono ?_; rintro e w9 ⟨rfl, rfl⟩; clear cY)))
                go_region
                go_wp2
                go_roundw
                case rel =>
                  go_light
                  refine ⟨m + 1 + 1, by omega, by go_num, ?_, hb.drew⟩
                  intro j hj
                  rcases Nat.lt_succ_iff_lt_or_eq.1 hj with h | rfl
                  · exact HE.out j h
                  · exact HF.out
                case measure => simp [intOf]; omega
    · have hkl : k = L.length := by omega
      subst hkl
      clear hA
      by_cases hq : 1 ≤ L.length ∧ L.length ≤ 20
      · have cN := fun w => in_any (L.length : Int) 1 20 w
        rw [inB_iff.2 (by omega)] at cN
        go_wp2_with (go_at_call 73; refine (cN _).mono ?_; rintro e w9 ⟨rfl, rfl⟩)
        go_ret
        exact ⟨ret_bool (okT_iff.2 ⟨hq, HE.out⟩).symm, hb⟩
      · have cN := fun w => in_any (L.length : Int) 1 20 w
        rw [inB_false.2 (by omega)] at cN
        have HF := Lib.hid (okT_len (L := L) (by omega))
        clear hq
        go_wp2_with (go_at_call 73; refine (cN _).mono ?_; rintro e w9 ⟨rfl, rfl⟩)
        go_ret
        exact ⟨ret_bool HF.out.symm, hb⟩
end Go.Proofs.YtajlkleoincoeacDoor

/- TRACKS, the program: ValidTrack, slices.Equal, SameTrack, last, TicksOf. -/
namespace Go.Proofs.YtajlkleoincoeacDoor
set_option maxRecDepth 100000
open Go.RowKit
set_option linter.unusedVariables false
set_option linter.unusedSimpArgs false
set_option maxHeartbeats 2000000 in
theorem implValidTrack_any (v : Value) (L : List (Int × Int × Int)) (w : World) (hL : ltK L) (h : SlAt eKy w w.heap.size v L) :
    Calls Tryd.prog 56 #[v] w fun e w' => e = .returned (.bool (okT L)) ∧ Below w.heap.size w w' := by
  obtain ⟨A, c, rfl, h1, h2, hA⟩ := h
  unfold maxLen at h2
  by_cases hlen : 1 ≤ L.length ∧ L.length ≤ 20
  case neg =>
    rw [okT_len (by omega)]
    clear hA
    by_cases hz : L.length < 1
    · have e1 : decide ((L.length : Int) < 1) = true := decide_eq_true (by omega)
      go_enter Tryd.func56, Tryd.ntmps56
      go_wp2
      go_ret
      exact ⟨rfl, Below.refl _ _⟩
    · have e1 : decide ((L.length : Int) < 1) = false := decide_eq_false (by omega)
      have e2 : decide ((20 : Int) < (L.length : Int)) = true := decide_eq_true (by omega)
      go_enter Tryd.func56, Tryd.ntmps56
      go_wp2
      go_ret
      exact ⟨rfl, Below.refl _ _⟩
  obtain ⟨b1, o1, rfl, hb1, r1⟩ := hA (by omega)
  have hl1 := hlen.1
  have hl2 := hlen.2
  clear hA hlen h2
  go_enter Tryd.func56, Tryd.ntmps56
  go_wp2
  go_loopw [15] (fun i wr => ∃ k : Nat, k ≤ L.length ∧ i = .int .i64 k ∧ (∀ j, j < k → stepK L j = true) ∧ Below w.heap.size w wr) (fun i _ => L.length - (intOf i).toNat)
  case atStart => exact ⟨0, by omega, rfl, by omega, Below.refl _ _⟩
  case round =>
    obtain ⟨k, hk, rfl, he, hb⟩ := hrel
    have HE := Lib.hid he
    clear he
    by_cases hlt : k < L.length
    case neg =>
      have hkl : k = L.length := by omega
      subst hkl
      clear r1
      go_wp2
      go_ret
      exact ⟨ret_bool (okT_iff.2 ⟨⟨hl1, hl2⟩, HE.out⟩).symm, hb⟩
    have g1 := range_below (range_part r1 (kAt_get hlt)) hb hb1
    rw [eKy_n] at g1
    have hl := kAt_lt hL k
    have HT := Lib.hid (fun h => stepK_in (L := L) (i := k) (inK_t h))
    have HX := Lib.hid (fun h => stepK_in (L := L) (i := k) (inK_x h))
    have HY := Lib.hid (fun h => stepK_in (L := L) (i := k) (inK_y h))
    have HI := Lib.hid (fun h h2 h3 => inK_ok (k := kAt L k) h h2 h3)
    have HU := Lib.hid (fun h0 h => stepK_up (L := L) (i := k) h0 h)
    have HO := Lib.hid (fun h h2 => stepK_ok (L := L) (i := k) h h2)
    have cT := fun w => isTick_any (kAt L k).1 w
    have cX := fun w => isWithin_any (kAt L k).2.1 24 w (by decide) (by decide)
    have cY := fun w => isWithin_any (kAt L k).2.2 24 w (by decide) (by decide)
    by_cases hk0 : k = 0
    · subst hk0
      obtain ⟨t, x, y, hxy⟩ : ∃ t x y, kAt L 0 = (t, x, y) := ⟨_, _, _, rfl⟩
      rw [hxy] at g1 hl HT HX HY HI HU HO cT cX cY
      have hx0 := hl.1
      have hx1 := hl.2.1
      have hx2 := hl.2.2
      dsimp only at hx0 hx1 hx2 HT HX HY HI HU HO cT cX cY
      have k0 : IntKind.i64.wrap t = t := IntWalk.i64_in _ (by omega)
      have k1 : IntKind.i64.wrap x = x := IntWalk.i64_in _ (by omega)
      have k2 : IntKind.i64.wrap y = y := IntWalk.i64_in _ (by omega)
      have hnb := hb.alloc hb.size (.cells (KC (t, x, y)) 82)
      clear hl hxy r1
      cases hT : inB t 0 200 with
      | false =>
        rw [hT] at cT
        have HF := Lib.hid (HT.out hT)
        clear hT HT HX HY HI HU HO cX cY
        go_wp2_with (refine wpList_load_el (E := eKy) rfl 82 _ rfl _ _ rfl (t, x, y) #[.int .i16 t, .int .i8 x, .int .i8 y] rfl g1 Tryd.underlying82 rfl (by kernel_rfl) ?_)
        go_region
        go_wp2_with (first | (go_at_call 86; refine (cT _).mono ?_; rintro e w9 ⟨rfl, rfl⟩))
        go_ret
        exact ⟨ret_bool (okT_at hlt HF.out).symm, hnb.drew⟩
      | true =>
        rw [hT] at cT
        cases hX : inB x (-24) 24 with
        | false =>
          rw [show inB x (-24) 24 = false from hX] at cX
          have HF := Lib.hid (HX.out hX)
          clear hT hX HT HX HY HI HU HO cY
          go_wp2_with (refine wpList_load_el (E := eKy) rfl 82 _ rfl _ _ rfl (t, x, y) #[.int .i16 t, .int .i8 x, .int .i8 y] rfl g1 Tryd.underlying82 rfl (by kernel_rfl) ?_)
          go_region
          go_wp2_with (first | (go_at_call 86; refine (cT _).mono ?_; rintro e w9 ⟨rfl, rfl⟩) | (go_at_call 101; refine (cX _).mono ?_; rintro e w9 ⟨rfl, rfl⟩))
          go_ret
          exact ⟨ret_bool (okT_at hlt HF.out).symm, hnb.drew⟩
        | true =>
          rw [show inB x (-24) 24 = true from hX] at cX
          cases hY : inB y (-24) 24 with
          | false =>
            rw [show inB y (-24) 24 = false from hY] at cY
            have HF := Lib.hid (HY.out hY)
            clear hT hX hY HT HX HY HI HU HO
            go_wp2_with (refine wpList_load_el (E := eKy) rfl 82 _ rfl _ _ rfl (t, x, y) #[.int .i16 t, .int .i8 x, .int .i8 y] rfl g1 Tryd.underlying82 rfl (by kernel_rfl) ?_)
            go_region
            go_wp2_with (first | (go_at_call 86; refine (cT _).mono ?_; rintro e w9 ⟨rfl, rfl⟩) | (go_at_call 101; first | (refine (cX _).mono ?_; rintro e w9 ⟨rfl, rfl⟩; clear cX) | (refine (cY _).mono ?_; rintro e w9 ⟨rfl, rfl⟩; clear cY)))
            go_ret
            exact ⟨ret_bool (okT_at hlt HF.out).symm, hnb.drew⟩
          | true =>
            rw [show inB y (-24) 24 = true from hY] at cY
            have HF := Lib.hid (HO.out (HI.out hT hX hY) (by omega))
            clear hT hX hY HT HX HY HI HU HO
            go_wp2_with (refine wpList_load_el (E := eKy) rfl 82 _ rfl _ _ rfl (t, x, y) #[.int .i16 t, .int .i8 x, .int .i8 y] rfl g1 Tryd.underlying82 rfl (by kernel_rfl) ?_)
            go_region
            go_wp2_with (first | (go_at_call 86; refine (cT _).mono ?_; rintro e w9 ⟨rfl, rfl⟩) | (go_at_call 101; first | (refine (cX _).mono ?_; rintro e w9 ⟨rfl, rfl⟩; clear cX) | (refine (cY _).mono ?_; rintro e w9 ⟨rfl, rfl⟩; clear cY)))
            go_roundw
            case rel =>
              go_light
              refine ⟨0 + 1, by omega, by first | rfl | go_num, ?_, hnb.drew⟩
              intro j hj
              rcases Nat.lt_succ_iff_lt_or_eq.1 hj with h | rfl
              · exact HE.out j h
              · exact HF.out
            case measure => simp [intOf]; omega
    · obtain ⟨m, rfl⟩ : ∃ m, k = m + 1 := ⟨k - 1, by omega⟩
      have g0 := range_below (range_part r1 (kAt_get (i := m) (by omega))) hb hb1
      rw [eKy_n] at g0
      have c3 := ky_cell0 g0
      have hlp := (kAt_lt hL m).1
      rw [Nat.add_sub_cancel] at HU HO
      obtain ⟨t, x, y, hxy⟩ : ∃ t x y, kAt L (m + 1) = (t, x, y) := ⟨_, _, _, rfl⟩
      rw [hxy] at g1 hl HT HX HY HI HU HO cT cX cY
      have hx0 := hl.1
      have hx1 := hl.2.1
      have hx2 := hl.2.2
      dsimp only at hx0 hx1 hx2 HT HX HY HI HU HO cT cX cY
      have k0 : IntKind.i64.wrap t = t := IntWalk.i64_in _ (by omega)
      have k1 : IntKind.i64.wrap x = x := IntWalk.i64_in _ (by omega)
      have k2 : IntKind.i64.wrap y = y := IntWalk.i64_in _ (by omega)
      have hnb := hb.alloc hb.size (.cells (KC (t, x, y)) 82)
      clear hl hxy r1 g0
      generalize (kAt L m).1 = s at *
      have l1 : b1 < wr.heap.size := Nat.lt_of_lt_of_le hb1 hb.size
      have c4 : ((wr.alloc (.cells #[.int .i16 t, .int .i8 x, .int .i8 y] 82)).drew).cell? ⟨b1, o1 + m * 3, none⟩ = some (.int .i16 s) := by rw [World.cell?_drew, World.cell?_alloc_past _ _ _ l1]; exact c3
      by_cases hup : t ≤ s
      · have HF := Lib.hid (HU.out (by omega) hup)
        have eu : decide (t ≤ s) = true := decide_eq_true hup
        clear HT HX HY HI HU HO cT cX cY
        go_wp2_with (refine wpList_load_el (E := eKy) rfl 82 _ rfl _ _ rfl (t, x, y) #[.int .i16 t, .int .i8 x, .int .i8 y] rfl g1 Tryd.underlying82 rfl (by kernel_rfl) ?_)
        go_region
        go_wp2
        go_ret
        exact ⟨ret_bool (okT_at hlt HF.out).symm, hnb.drew⟩
      · have eu : decide (t ≤ s) = false := decide_eq_false hup
        cases hT : inB t 0 200 with
        | false =>
          rw [hT] at cT
          have HF := Lib.hid (HT.out hT)
          clear hT HT HX HY HI HU HO cX cY
          go_wp2_with (refine wpList_load_el (E := eKy) rfl 82 _ rfl _ _ rfl (t, x, y) #[.int .i16 t, .int .i8 x, .int .i8 y] rfl g1 Tryd.underlying82 rfl (by kernel_rfl) ?_)
          go_region
          go_wp2_with (first | (go_at_call 86; refine (cT _).mono ?_; rintro e w9 ⟨rfl, rfl⟩))
          go_ret
          exact ⟨ret_bool (okT_at hlt HF.out).symm, hnb.drew⟩
        | true =>
          rw [hT] at cT
          cases hX : inB x (-24) 24 with
          | false =>
            rw [show inB x (-24) 24 = false from hX] at cX
            have HF := Lib.hid (HX.out hX)
            clear hT hX HT HX HY HI HU HO cY
            go_wp2_with (refine wpList_load_el (E := eKy) rfl 82 _ rfl _ _ rfl (t, x, y) #[.int .i16 t, .int .i8 x, .int .i8 y] rfl g1 Tryd.underlying82 rfl (by kernel_rfl) ?_)
            go_region
            go_wp2_with (first | (go_at_call 86; refine (cT _).mono ?_; rintro e w9 ⟨rfl, rfl⟩) | (go_at_call 101; refine (cX _).mono ?_; rintro e w9 ⟨rfl, rfl⟩))
            go_ret
            exact ⟨ret_bool (okT_at hlt HF.out).symm, hnb.drew⟩
          | true =>
            rw [show inB x (-24) 24 = true from hX] at cX
            cases hY : inB y (-24) 24 with
            | false =>
              rw [show inB y (-24) 24 = false from hY] at cY
              have HF := Lib.hid (HY.out hY)
              clear hT hX hY HT HX HY HI HU HO
              go_wp2_with (refine wpList_load_el (E := eKy) rfl 82 _ rfl _ _ rfl (t, x, y) #[.int .i16 t, .int .i8 x, .int .i8 y] rfl g1 Tryd.underlying82 rfl (by kernel_rfl) ?_)
              go_region
              go_wp2_with (first | (go_at_call 86; refine (cT _).mono ?_; rintro e w9 ⟨rfl, rfl⟩) | (go_at_call 101; first | (refine (cX _).mono ?_; rintro e w9 ⟨rfl, rfl⟩; clear cX) | (refine (cY _).mono ?_; rintro e w9 ⟨rfl, rfl⟩; clear cY)))
              go_ret
              exact ⟨ret_bool (okT_at hlt HF.out).symm, hnb.drew⟩
            | true =>
              rw [show inB y (-24) 24 = true from hY] at cY
              have HF := Lib.hid (HO.out (HI.out hT hX hY) (fun _ => by omega))
              clear hT hX hY HT HX HY HI HU HO
              go_wp2_with (refine wpList_load_el (E := eKy) rfl 82 _ rfl _ _ rfl (t, x, y) #[.int .i16 t, .int .i8 x, .int .i8 y] rfl g1 Tryd.underlying82 rfl (by kernel_rfl) ?_)
              go_region
              go_wp2_with (first | (go_at_call 86; refine (cT _).mono ?_; rintro e w9 ⟨rfl, rfl⟩) | (go_at_call 101; first | (refine (cX _).mono ?_; rintro e w9 ⟨rfl, rfl⟩; clear cX) | (refine (cY _).mono ?_; rintro e w9 ⟨rfl, rfl⟩; clear cY)))
              go_roundw
              case rel =>
                go_light
                refine ⟨m + 1 + 1, by omega, by first | rfl | go_num, ?_, hnb.drew⟩
                intro j hj
                rcases Nat.lt_succ_iff_lt_or_eq.1 hj with h | rfl
                · exact HE.out j h
                · exact HF.out
              case measure => simp [intOf]; omega
theorem run_neq_ky (w : World) (a b : Int × Int × Int) : (binOp .neq 82 (.agg (KC a)) (.agg (KC b))).run Tryd.prog w = .ok (.bool (!decide (a = b))) w := by
  obtain ⟨a0, a1, a2⟩ := a
  obtain ⟨b0, b1, b2⟩ := b
  show (binOp .neq 82 (.agg #[.int .i16 a0, .int .i8 a1, .int .i8 a2]) (.agg #[.int .i16 b0, .int .i8 b1, .int .i8 b2])).run Tryd.prog w = _
  by_cases h0 : a0 = b0
  · by_cases h1 : a1 = b1
    · by_cases h2 : a2 = b2
      · rw [h0, h1, h2, decide_eq_true rfl]
        go_simp
      · have e2 : (a2 == b2) = false := by simp [h2]
        rw [decide_eq_false (fun e => h2 (by injection e with _ e; injection e)), h0, h1]
        clear h0 h1 h2
        go_simp
    · have e1 : (a1 == b1) = false := by simp [h1]
      rw [decide_eq_false (fun e => h1 (by injection e with _ e; injection e)), h0]
      clear h0 h1
      go_simp
  · have e0 : (a0 == b0) = false := by simp [h0]
    rw [decide_eq_false (fun e => h0 (by injection e))]
    clear h0
    go_simp
theorem run_eql_ky (w : World) (a b : Int × Int × Int) : (binOp .eql 82 (.agg (KC a)) (.agg (KC b))).run Tryd.prog w = .ok (.bool (decide (a = b))) w := by
  obtain ⟨a0, a1, a2⟩ := a
  obtain ⟨b0, b1, b2⟩ := b
  show (binOp .eql 82 (.agg #[.int .i16 a0, .int .i8 a1, .int .i8 a2]) (.agg #[.int .i16 b0, .int .i8 b1, .int .i8 b2])).run Tryd.prog w = _
  by_cases h0 : a0 = b0
  · by_cases h1 : a1 = b1
    · by_cases h2 : a2 = b2
      · rw [h0, h1, h2, decide_eq_true rfl]
        go_simp
      · have e2 : (a2 == b2) = false := by simp [h2]
        rw [decide_eq_false (fun e => h2 (by injection e with _ e; injection e)), h0, h1]
        clear h0 h1 h2
        go_simp
    · have e1 : (a1 == b1) = false := by simp [h1]
      rw [decide_eq_false (fun e => h1 (by injection e with _ e; injection e)), h0]
      clear h0 h1
      go_simp
  · have e0 : (a0 == b0) = false := by simp [h0]
    rw [decide_eq_false (fun e => h0 (by injection e))]
    clear h0
    go_simp
end Go.Proofs.YtajlkleoincoeacDoor

/- EASES, the program: shareOf (a table of functions), EaseOf. -/
namespace Go.Proofs.YtajlkleoincoeacDoor
set_option maxRecDepth 100000
open Go.RowKit
set_option linter.unusedVariables false
set_option linter.unusedSimpArgs false
set_option maxHeartbeats 1000000 in
theorem shareOf_any (e s n : Int) (w : World) (he : 0 ≤ e ∧ e ≤ 3) (hs : 0 ≤ s ∧ s ≤ n) (hn : 1 ≤ n ∧ n ≤ 200) :
    Calls Tryd.prog 124 #[.int .i64 e, .int .i64 s, .int .i64 n] w fun r w' => r = .returned (.int .i64 (shareI e s n)) ∧ Below w.heap.size w w' := by
  have c0 := fun w => evenShare_any s n w hs hn
  have c1 := fun w => slowInShare_any s n w hs hn
  have c2 := fun w => slowOutShare_any s n w hs hn
  have c3 := fun w => slowBothShare_any s n w hs hn
  have d0 : ∀ w, (callFunc 143 #[.int .i64 s, .int .i64 n]).run Tryd.prog w = .ok (.enter 143 #[.int .i64 s, .int .i64 n]) w := fun w => by kernel_rfl
  have d1 : ∀ w, (callFunc 144 #[.int .i64 s, .int .i64 n]).run Tryd.prog w = .ok (.enter 144 #[.int .i64 s, .int .i64 n]) w := fun w => by kernel_rfl
  have d2 : ∀ w, (callFunc 145 #[.int .i64 s, .int .i64 n]).run Tryd.prog w = .ok (.enter 145 #[.int .i64 s, .int .i64 n]) w := fun w => by kernel_rfl
  have d3 : ∀ w, (callFunc 146 #[.int .i64 s, .int .i64 n]).run Tryd.prog w = .ok (.enter 146 #[.int .i64 s, .int .i64 n]) w := fun w => by kernel_rfl
  have hst : ∀ (k : Nat) a m w, (store a (.func (.func k) #[] #[]) m).run Tryd.prog w = stored Tryd.prog w a (.func (.func k) #[] #[]) m := fun k a m w => run_store Tryd.prog w a _ m rfl
  have h0 := Below.refl w.heap.size w
  have hcases : e = 0 ∨ e = 1 ∨ e = 2 ∨ e = 3 := by omega
  clear he hs hn
  rcases hcases with rfl | rfl | rfl | rfl
  · clear c1 c2 c3 d1 d2 d3
    generalize shareI 0 s n = v at *
    go_enter Tryd.func124, Tryd.ntmps124
    go_wp2_with (go_at_call 143; refine (c0 _).mono ?_; rintro e w' ⟨rfl, rfl⟩)
    go_ret
    exact ⟨rfl, h0.alloc h0.size _⟩
  · clear c0 c2 c3 d0 d2 d3
    generalize shareI 1 s n = v at *
    go_enter Tryd.func124, Tryd.ntmps124
    go_wp2_with (go_at_call 144; refine (c1 _).mono ?_; rintro e w' ⟨rfl, rfl⟩)
    go_ret
    exact ⟨rfl, h0.alloc h0.size _⟩
  · clear c0 c1 c3 d0 d1 d3
    generalize shareI 2 s n = v at *
    go_enter Tryd.func124, Tryd.ntmps124
    go_wp2_with (go_at_call 145; refine (c2 _).mono ?_; rintro e w' ⟨rfl, rfl⟩)
    go_ret
    exact ⟨rfl, h0.alloc h0.size _⟩
  · clear c0 c1 c2 d0 d1 d2
    generalize shareI 3 s n = v at *
    go_enter Tryd.func124, Tryd.ntmps124
    go_wp2_with (go_at_call 146; refine (c3 _).mono ?_; rintro e w' ⟨rfl, rfl⟩)
    go_ret
    exact ⟨rfl, h0.alloc h0.size _⟩
end Go.Proofs.YtajlkleoincoeacDoor
