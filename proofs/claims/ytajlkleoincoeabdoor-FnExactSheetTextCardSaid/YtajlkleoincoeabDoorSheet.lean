/- SHEETS: when a sheet is valid for a book. spec: l02Sheet, ValidSheet; impl: isSheet, ValidSheet. -/
import Derived.Test.YtajlkleoincoeabDoorLShot
import Derived.Test.YtajlkleoincoeabDoorSBook
import Derived.Test.YtajlkleoincoeabDoorIBook
import Derived.Test.YtajlkleoincoeabDoorCodeName
namespace Go.Proofs.YtajlkleoincoeabDoor
set_option maxRecDepth 100000
open Go.RowKit
set_option linter.unusedVariables false
set_option linter.unusedSimpArgs false
def inS (n : Nat) (s : Int × Int) : Bool := inB s.1 0 ((n : Int) - 1) && inB s.2 1 24
def okS (n : Nat) (L : List (Int × Int)) : Bool := decide (L.length ≤ 80) && L.all (inS n)
theorem okS_iff {n : Nat} {L : List (Int × Int)} : okS n L = true ↔ L.length ≤ 80 ∧ ∀ i, i < L.length → inS n (sAt L i) = true := by
  unfold okS
  rw [Bool.and_eq_true, decide_eq_true_iff, List.all_eq_true]
  refine and_congr_right fun _ => ⟨fun h i hi => h _ (List.mem_of_getElem? (sAt_get hi)), fun h x hx => ?_⟩
  obtain ⟨i, hi⟩ := List.getElem?_of_mem hx
  have hlt := (List.getElem?_eq_some_iff.1 hi).1
  have := h i hlt
  rw [sAt_get hlt] at hi
  rwa [Option.some.inj hi] at this
theorem okS_len {n : Nat} {L : List (Int × Int)} (h : 80 < L.length) : okS n L = false := by
  unfold okS; rw [decide_eq_false (by omega)]; rfl
theorem okS_at {n : Nat} {L : List (Int × Int)} {i : Nat} (hi : i < L.length) (h : inS n (sAt L i) = false) : okS n L = false := by
  cases ho : okS n L with
  | false => rfl
  | true => have := (okS_iff.1 ho).2 i hi; rw [h] at this; cases this
def lt8 (s : Int × Int) : Prop := (-128 ≤ s.1 ∧ s.1 ≤ 127) ∧ -128 ≤ s.2 ∧ s.2 ≤ 127
def ltS (L : List (Int × Int)) : Prop := ∀ s ∈ L, lt8 s
theorem sAt_lt {L : List (Int × Int)} (h : ltS L) (i : Nat) : lt8 (sAt L i) := by
  by_cases hi : i < L.length
  · exact h _ (List.mem_of_getElem? (sAt_get hi))
  · unfold sAt
    rw [List.getD_eq_getElem?_getD, List.getElem?_eq_none (by omega)]
    simp [zeroS, lt8]
theorem inBl (z a b : Int) (w : World) : Calls Tryd.prog 40 #[.int .i64 z, .int .i64 a, .int .i64 b] w fun e w' => e = .returned (.bool (inB z a b)) ∧ Below w.heap.size w w' :=
  (in_any z a b w).mono fun e w' ⟨h1, h2⟩ => ⟨h1, h2 ▸ Below.refl _ _⟩
/-- A valid book and a valid sheet. -/
def okBS (L : List (Nat → Nat)) (S : List (Int × Int)) : Bool := okB L && okS L.length S
set_option maxHeartbeats 1000000 in
theorem isSheet_any (u : Value) (n : Nat) (S : List (Int × Int)) (w : World) (hn : n ≤ 40) (hS : ltS S) (hs : SlAt eSh w w.heap.size u S) :
    Calls Tryd.prog 53 #[u, .int .i64 n] w fun e w' => e = .returned (.bool (okS n S)) ∧ Below w.heap.size w w' := by
  obtain ⟨B, d, rfl, h3, h4, hB⟩ := hs
  unfold maxLen at h4
  by_cases h80 : 80 < S.length
  · rw [okS_len h80]
    clear hB
    go_enter Tryd.func53, Tryd.ntmps53
    go_wp2
    go_ret
    exact ⟨rfl, Below.refl _ _⟩
  · go_enter Tryd.func53, Tryd.ntmps53
    go_wp2
    go_loopw [12] (fun i wr => ∃ k : Nat, k ≤ S.length ∧ i = .int .i64 k ∧ (∀ j, j < k → inS n (sAt S j) = true) ∧ Below w.heap.size w wr) (fun i _ => S.length - (intOf i).toNat)
    case atStart => exact ⟨0, by omega, rfl, by omega, Below.refl _ _⟩
    case round =>
      obtain ⟨k, hk, rfl, he, hb⟩ := hrel
      have HE := Lib.hid he
      clear he
      by_cases hlt : k < S.length
      · obtain ⟨b1, o1, rfl, hb1, r1⟩ := hB (by omega)
        have g1 := range_below (range_part r1 (sAt_get hlt)) hb hb1
        rw [eSh_n] at g1
        have hl8 := sAt_lt hS k
        have hI : inS n (sAt S k) = (inB (sAt S k).1 0 ((n : Int) - 1) && inB (sAt S k).2 1 24) := rfl
        clear hB r1
        obtain ⟨x, y, hxy⟩ : ∃ x y, sAt S k = (x, y) := ⟨_, _, rfl⟩
        rw [hxy] at g1 hl8
        have HI := Lib.hid (hI.trans (by rw [hxy]))
        clear hI hxy
        have hx := hl8.1
        have hy := hl8.2
        dsimp only at hx hy
        have k1 : IntKind.i64.wrap x = x := IntWalk.i64_in _ (by omega)
        have hnb := hb.alloc hb.size (.cells (SC (x, y)) 74)
        clear hl8
        by_cases q1 : x < 0
        · have e1 : decide (x < 0) = true := decide_eq_true q1
          have HF : inS n (sAt S k) = false := HI.out.trans (by rw [show inB (x, y).1 0 ((n : Int) - 1) = false from inB_false.2 (by dsimp only; omega), Bool.false_and])
          have HF' := Lib.hid HF
          clear HF HI
          go_wp2_with (refine wpList_load_el (E := eSh) rfl 74 _ rfl _ _ rfl (x, y) #[.int .i8 x, .int .i8 y] rfl g1 Tryd.underlying74 rfl (by kernel_rfl) ?_)
          go_ret
          exact ⟨ret_bool (okS_at hlt HF'.out).symm, hnb⟩
        · have e1 : decide (x < 0) = false := decide_eq_false q1
          by_cases q2 : (n : Int) ≤ x
          · have e2 : decide ((n : Int) ≤ x) = true := decide_eq_true q2
            have HF : inS n (sAt S k) = false := HI.out.trans (by rw [show inB (x, y).1 0 ((n : Int) - 1) = false from inB_false.2 (by dsimp only; omega), Bool.false_and])
            have HF' := Lib.hid HF
            clear HF HI
            go_wp2_with (refine wpList_load_el (E := eSh) rfl 74 _ rfl _ _ rfl (x, y) #[.int .i8 x, .int .i8 y] rfl g1 Tryd.underlying74 rfl (by kernel_rfl) ?_)
            go_ret
            exact ⟨ret_bool (okS_at hlt HF'.out).symm, hnb⟩
          · have e2 : decide ((n : Int) ≤ x) = false := decide_eq_false q2
            by_cases q3 : y < 1
            · have e3 : decide (y < 1) = true := decide_eq_true q3
              have HF : inS n (sAt S k) = false := HI.out.trans (by rw [show inB (x, y).2 1 24 = false from inB_false.2 (by dsimp only; omega), Bool.and_false])
              have HF' := Lib.hid HF
              clear HF HI
              go_wp2_with (refine wpList_load_el (E := eSh) rfl 74 _ rfl _ _ rfl (x, y) #[.int .i8 x, .int .i8 y] rfl g1 Tryd.underlying74 rfl (by kernel_rfl) ?_)
              go_ret
              exact ⟨ret_bool (okS_at hlt HF'.out).symm, hnb⟩
            · have e3 : decide (y < 1) = false := decide_eq_false q3
              by_cases q4 : 24 < y
              · have e4 : decide (24 < y) = true := decide_eq_true q4
                have HF : inS n (sAt S k) = false := HI.out.trans (by rw [show inB (x, y).2 1 24 = false from inB_false.2 (by dsimp only; omega), Bool.and_false])
                have HF' := Lib.hid HF
                clear HF HI
                go_wp2_with (refine wpList_load_el (E := eSh) rfl 74 _ rfl _ _ rfl (x, y) #[.int .i8 x, .int .i8 y] rfl g1 Tryd.underlying74 rfl (by kernel_rfl) ?_)
                go_ret
                exact ⟨ret_bool (okS_at hlt HF'.out).symm, hnb⟩
              · have e4 : decide (24 < y) = false := decide_eq_false q4
                have HF : inS n (sAt S k) = true := HI.out.trans (by rw [show inB (x, y).1 0 ((n : Int) - 1) = true from inB_iff.2 (by dsimp only; omega), show inB (x, y).2 1 24 = true from inB_iff.2 (by dsimp only; omega)]; rfl)
                have HF' := Lib.hid HF
                clear HF HI
                go_wp2_with (refine wpList_load_el (E := eSh) rfl 74 _ rfl _ _ rfl (x, y) #[.int .i8 x, .int .i8 y] rfl g1 Tryd.underlying74 rfl (by kernel_rfl) ?_)
                go_roundw
                case rel =>
                  go_light
                  refine ⟨k + 1, by omega, by go_num, ?_, hnb⟩
                  intro j hj
                  rcases Nat.lt_succ_iff_lt_or_eq.1 hj with h | rfl
                  · exact HE.out j h
                  · exact HF'.out
                case measure => simp [intOf]; omega
      · go_wp2
        go_ret
        have hkl : k = S.length := by omega
        subst hkl
        exact ⟨ret_bool (okS_iff.2 ⟨by omega, HE.out⟩).symm, hb⟩
end Go.Proofs.YtajlkleoincoeabDoor
