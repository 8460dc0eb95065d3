/- TEXTS OF ORDERS: OrderText, spec and impl. -/
import Derived.Test.YtajlkleoincoeabDoorRows
import Derived.Test.YtajlkleoincoeabDoorTxI
import Derived.Test.YtajlkleoincoeabDoorDec
import Derived.Test.YtajlkleoincoeabDoorOrdM
import Derived.Test.YtajlkleoincoeabDoorLI64
namespace Go.Proofs.YtajlkleoincoeabDoor
set_option maxRecDepth 100000
open Go.RowKit
set_option linter.unusedVariables false
set_option linter.unusedSimpArgs false
def wdO (O : List Int) : List (List UInt8) := O.map fun z => dcL z.toNat
theorem wdO_get {O : List Int} {k : Nat} (h : k < O.length) : (wdO O)[k]? = some (dcL (nAt O k).toNat) := by
  unfold wdO; rw [List.getElem?_map, nAt_get h]; rfl
theorem wdO_len (O : List Int) : (wdO O).length = O.length := List.length_map _
/-- Whether an order has a text. -/
def otB (O : List Int) : Bool := decide (O.length ≤ 40) && O.all fun z => inB z 0 39
def otT (O : List Int) : List UInt8 := if otB O then joinW 32 (wdO O) else []
theorem ret_str {a b : List UInt8} (h : a = b) : Ending.returned (.string (bsOf a)) = .returned (.string (bsOf b)) := by rw [h]
theorem all_nAt {O : List Int} {p : Int → Bool} : O.all p = true ↔ ∀ i, i < O.length → p (nAt O i) = true := by
  rw [List.all_eq_true]
  constructor
  · intro h i hi
    exact h _ (List.mem_of_getElem? (nAt_get hi))
  · intro h x hx
    obtain ⟨i, hi⟩ := List.getElem?_of_mem hx
    have hl := (List.getElem?_eq_some_iff.1 hi).1
    have := nAt_get hl
    rw [hi] at this
    rw [Option.some.inj this]; exact h i hl
theorem otB_iff {O : List Int} : otB O = true ↔ O.length ≤ 40 ∧ ∀ i, i < O.length → 0 ≤ nAt O i ∧ nAt O i ≤ 39 := by
  unfold otB
  rw [Bool.and_eq_true, all_nAt]
  simp only [decide_eq_true_eq, inB_iff]
theorem otT_bad {O : List Int} (h : ¬ (O.length ≤ 40 ∧ ∀ i, i < O.length → 0 ≤ nAt O i ∧ nAt O i ≤ 39)) : otT O = [] := by
  unfold otT; rw [if_neg (fun e => h (otB_iff.1 e))]
theorem otT_good {O : List Int} (h : O.length ≤ 40 ∧ ∀ i, i < O.length → 0 ≤ nAt O i ∧ nAt O i ≤ 39) : otT O = joinW 32 (wdO O) := by
  unfold otT; rw [if_pos (otB_iff.2 h)]
theorem wdO_word {O : List Int} (h : ∀ i, i < O.length → 0 ≤ nAt O i ∧ nAt O i ≤ 39) : ∀ x ∈ wdO O, x.length ≤ 2 := by
  intro x hx
  obtain ⟨i, hi⟩ := List.getElem?_of_mem hx
  have hl : i < O.length := by have := (List.getElem?_eq_some_iff.1 hi).1; rwa [wdO_len] at this
  rw [wdO_get hl] at hi
  cases hi
  exact dcL_len2 (by have := h i hl; omega)
set_option maxHeartbeats 2000000 in
theorem l04Text_any (v : Value) (O : List Int) (w : World) (hlen : O.length ≤ 40) (hall : ∀ i, i < O.length → 0 ≤ nAt O i ∧ nAt O i ≤ 39) (h : SlAt (eI .i64) w w.heap.size v O) :
    Calls Tryd.prog 41 #[v] w fun e w' => e = .returned (.string (bsOf (joinW 32 (wdO O)))) ∧ Below w.heap.size w w' := by
  obtain ⟨A, c, rfl, h1, h2, hA⟩ := h
  unfold maxLen at h2
  have HW := Lib.hid hall
  have hjl := fun k => joinW_take_len 32 (wdO O) 2 (wdO_word hall) k
  rw [wdO_len] at hjl
  have HJ := Lib.hid hjl
  clear hall hjl
  go_enter Tryd.func41, Tryd.ntmps41
  go_wp2
  go_loopw [3, 4] (fun s i wr => ∃ k : Nat, k ≤ O.length ∧ i = .int .i64 k ∧ s = .string (bsOf (joinW 32 ((wdO O).take k))) ∧ Below w.heap.size w wr) (fun _ i _ => O.length - (intOf i).toNat)
  case atStart => exact ⟨0, by omega, rfl, rfl, Below.refl _ _⟩
  case round =>
    obtain ⟨k, hk, rfl, rfl, hb⟩ := hrel
    by_cases hlt : k < O.length
    · obtain ⟨b1, o1, rfl, hb1, r1⟩ := hA (by omega)
      have c1 := int_cell (range_below r1 hb hb1) hlt
      rw [show O.getD k 0 = nAt O k from rfl] at c1
      obtain ⟨h0, h39⟩ := HW.out k hlt
      have hg := wdO_get hlt
      obtain ⟨n, hn⟩ := Int.eq_ofNat_of_zero_le h0
      rw [hn] at c1 h39 hg
      rw [Int.toNat_natCast] at hg
      have hdl := dcL_len2 (n := n) (by omega)
      have hj := HJ.out k
      have cD := fun w => decimal_any n (by omega) w
      by_cases hk0 : k = 0
      · subst hk0
        rw [Nat.add_zero] at c1
        have st := joinW_take0 32 (wdO O) _ hg
        have HST := Lib.hid st
        have e0 : joinW 32 ((wdO O).take 0) = [] := rfl
        rw [e0]
        have hs2 := fun w => str_add [] (dcL n) (by simp; omega) w
        rw [List.nil_append] at hs2
        clear st hg hA r1 hj e0 hn h0
        go_wp2_with (go_at_call 71; refine (cD _).mono ?_; rintro e w1 ⟨rfl, hb2⟩)
        go_roundw
        case rel =>
          go_light
          exact ⟨1, by omega, by go_num, by rw [HST.out], grown_below hb hb2 hb.size⟩
        case measure => simp [intOf]; omega
      · have st := joinW_take 32 (wdO O) k _ hg (by omega)
        have HST := Lib.hid st
        generalize joinW 32 ((wdO O).take k) = J at *
        have hs1 := fun w => str_add J [32] (by simp; omega) w
        have hs2 := fun w => str_add (J ++ [32]) (dcL n) (by simp; omega) w
        have hs1' : ∀ w, (Op.stringOp .add (bsOf J) ⟨#[32]⟩).run Tryd.prog w = .ok (.string (bsOf (J ++ [32]))) w := hs1
        have hkp : (0 : Int) < (k : Int) := by omega
        clear st hg hA r1 hj hs1 hn h0 hk0
        go_wp2_with (go_at_call 71; refine (cD _).mono ?_; rintro e w1 ⟨rfl, hb2⟩)
        go_roundw
        case rel =>
          go_light
          exact ⟨k + 1, by omega, by go_num, by rw [HST.out, List.append_assoc]; rfl, grown_below hb hb2 hb.size⟩
        case measure => simp [intOf]; omega
    · have hkl : k = O.length := by omega
      subst hkl
      have e1 : (wdO O).take O.length = wdO O := List.take_of_length_le (by rw [wdO_len]; exact Nat.le_refl _)
      rw [e1]
      clear hA e1
      go_wp2
      go_ret
      exact ⟨rfl, hb⟩
set_option maxHeartbeats 1000000 in
theorem specOrderText_any (v : Value) (O : List Int) (w : World) (h : SlAt (eI .i64) w w.heap.size v O) :
    Calls Tryd.prog 10 #[v] w fun e w' => e = .returned (.string (bsOf (otT O))) ∧ Below w.heap.size w w' := by
  have cT := fun hl ha => l04Text_any v O w hl ha h
  obtain ⟨A, c, rfl, h1, h2, hA⟩ := h
  unfold maxLen at h2
  have hbad := @otT_bad O
  have hgood := @otT_good O
  have HT := Lib.hid cT
  have HB := Lib.hid hbad
  have HG := Lib.hid hgood
  clear cT hbad hgood
  go_enter Tryd.func10, Tryd.ntmps10
  go_wp2
  go_loopw [3] (fun i wr => ∃ k : Nat, k ≤ O.length ∧ i = .int .i64 k ∧ (∀ j, j < k → 0 ≤ nAt O j ∧ nAt O j ≤ 39) ∧ wr = w) (fun i _ => O.length - (intOf i).toNat)
  case atStart => exact ⟨0, by omega, rfl, by omega, rfl⟩
  case round =>
    obtain ⟨k, hk, rfl, hall, rfl⟩ := hrel
    have HA := Lib.hid hall
    clear hall
    by_cases hlt : k < O.length
    · obtain ⟨b1, o1, rfl, hb1, r1⟩ := hA (by omega)
      have c1 := int_cell r1 hlt
      rw [show O.getD k 0 = nAt O k from rfl] at c1
      obtain ⟨z, hz⟩ : ∃ z, nAt O k = z := ⟨_, rfl⟩
      have HZ := Lib.hid hz
      rw [hz] at c1
      clear hA r1 hz
      cases hi : inB z 0 39 with
      | true =>
        have hi2 := inB_iff.1 hi
        have HI := Lib.hid hi2
        clear hi2
        go_wp2_with (go_at_call 40; refine (in_any _ _ _ _).mono ?_; rintro e w' ⟨rfl, rfl⟩)
        go_roundw
        case rel =>
          go_light
          refine ⟨k + 1, by omega, by go_num, fun j hj => ?_, by trivial⟩
          rcases Nat.lt_succ_iff_lt_or_eq.1 hj with h | rfl
          · exact HA.out j h
          · rw [HZ.out]; exact HI.out
        case measure => simp [intOf]; omega
      | false =>
        have hno : otT O = [] := HB.out fun ⟨_, h⟩ => by
          have := h k hlt
          rw [HZ.out, ← inB_iff, hi] at this
          cases this
        have HNO := Lib.hid hno
        clear hno
        go_wp2_with (go_at_call 40; refine (in_any _ _ _ _).mono ?_; rintro e w' ⟨rfl, rfl⟩)
        go_ret
        exact ⟨ret_str HNO.out.symm, Below.refl _ _⟩
    · have hkl : k = O.length := by omega
      subst hkl
      clear hA
      by_cases hl : O.length ≤ 40
      · have cT := HT.out hl HA.out
        have HO := Lib.hid (HG.out ⟨hl, HA.out⟩)
        have d4 : ¬ (40 : Int) < (O.length : Int) := by omega
        clear HT
        go_wp2_with (go_at_call 41; refine cT.mono ?_; rintro e w1 ⟨rfl, hb1⟩)
        go_ret
        exact ⟨ret_str HO.out.symm, hb1⟩
      · have HO := Lib.hid (HB.out fun ⟨h, _⟩ => hl h)
        have d4 : (40 : Int) < (O.length : Int) := by omega
        clear HT
        go_wp2
        go_ret
        exact ⟨ret_str HO.out.symm, Below.refl _ _⟩
set_option maxHeartbeats 2000000 in
theorem implOrderText_any (v : Value) (O : List Int) (w : World) (h : SlAt (eI .i64) w w.heap.size v O) :
    Calls Tryd.prog 12 #[v] w fun e w' => e = .returned (.string (bsOf (otT O))) ∧ Below w.heap.size w w' := by
  obtain ⟨A, c, rfl, h1, h2, hA⟩ := h
  unfold maxLen at h2
  have HB := Lib.hid (@otT_bad O)
  have HG := Lib.hid (@otT_good O)
  by_cases hl : O.length ≤ 40
  · have d4 : ¬ (40 : Int) < (O.length : Int) := by omega
    have hown := OwnL.nil_ (E := eStr) w w.heap.size 9
    go_enter Tryd.func12, Tryd.ntmps12
    go_wp2
    go_loopw [3, 11] (fun u i wr => ∃ k : Nat, k ≤ O.length ∧ i = .int .i64 k ∧ (∀ j, j < k → 0 ≤ nAt O j ∧ nAt O j ≤ 39) ∧ OwnL eStr wr w.heap.size 9 u ((wdO O).take k) ∧ Below w.heap.size w wr) (fun _ i _ => O.length - (intOf i).toNat)
    case atStart => exact ⟨0, by omega, rfl, by omega, hown, Below.refl _ _⟩
    case round =>
      clear hown
      obtain ⟨k, hk, rfl, hall, hown, hb⟩ := hrel
      have HA := Lib.hid hall
      clear hall
      by_cases hlt : k < O.length
      · obtain ⟨b1, o1, rfl, hb1, r1⟩ := hA (by omega)
        have c1 := int_cell (range_below r1 hb hb1) hlt
        rw [show O.getD k 0 = nAt O k from rfl] at c1
        obtain ⟨z, hz⟩ : ∃ z, nAt O k = z := ⟨_, rfl⟩
        have HZ := Lib.hid hz
        have hg := wdO_get hlt
        rw [hz] at c1 hg
        clear hA r1 hz
        by_cases hz0 : z < 0
        · have hno : otT O = [] := HB.out fun ⟨_, h⟩ => by
            have := h k hlt
            rw [HZ.out] at this
            omega
          have HNO := Lib.hid hno
          clear hno
          go_wp2
          go_ret
          exact ⟨ret_str HNO.out.symm, hb⟩
        · by_cases hz40 : 40 ≤ z
          · have hno : otT O = [] := HB.out fun ⟨_, h⟩ => by
              have := h k hlt
              rw [HZ.out] at this
              omega
            have HNO := Lib.hid hno
            clear hno
            have d1 : decide (z < 0) = false := decide_eq_false hz0
            have d2 : decide (40 ≤ z) = true := decide_eq_true hz40
            go_wp2
            go_ret
            exact ⟨ret_str HNO.out.symm, hb⟩
          · obtain ⟨n, hn⟩ := Int.eq_ofNat_of_zero_le (show 0 ≤ z by omega)
            subst hn
            rw [Int.toNat_natCast] at hg
            have HN := Lib.hid (show 0 ≤ (n : Int) ∧ (n : Int) ≤ 39 by omega)
            have cF := fun w => Tryd.strconv_FormatInt_10_small n (by omega) w
            have hst : (wdO O).take (k + 1) = (wdO O).take k ++ [dcL n] := by rw [List.take_add_one, hg]; rfl
            have HST := Lib.hid hst
            have htl : ((wdO O).take k).length ≤ 1000000000 := by rw [List.length_take]; omega
            have d1 : decide ((n : Int) < 0) = false := decide_eq_false hz0
            have d2 : decide (40 ≤ (n : Int)) = false := decide_eq_false hz40
            clear hst hg hz0 hz40
            go_wp2_with (first | (go_at_call 43; refine (cF _).mono ?_; rintro e w' ⟨rfl, rfl⟩) | (at_builtin; refine wpList_append_one rfl _ _ 58 rfl w.heap.size 9 Tryd.underlying58 infoStr rfl (by decide) (by omega) (hown.alloc _) rfl (dcL n) rfl (range_new _ _ _) htl (by have := hb.size; simp; omega) ?_; intro v' w4 hown' hgrow))
            go_roundw
            case rel =>
              go_light
              refine ⟨k + 1, by omega, by go_num, fun j hj => ?_, ?_, (hown.alloc _).grown_below (hb.alloc hb.size _) hgrow (Nat.le_refl _) (by have := hb.size; simp; omega)⟩
              · rcases Nat.lt_succ_iff_lt_or_eq.1 hj with h | rfl
                · exact HA.out j h
                · rw [HZ.out]; exact HN.out
              · rw [HST.out]; exact hown'
            case measure => simp [intOf]; omega
      · have hkl : k = O.length := by omega
        subst hkl
        have e1 : (wdO O).take O.length = wdO O := List.take_of_length_le (by rw [wdO_len]; exact Nat.le_refl _)
        rw [e1] at hown
        have hjl := joinW_len 32 (wdO O) 2 (wdO_word HA.out)
        rw [wdO_len] at hjl
        have cJ := join_any _ (wdO O) 32 wr (by rw [wdO_len]; omega) (by omega) (hown.sl (by decide))
        have HO := Lib.hid (HG.out ⟨hl, HA.out⟩)
        obtain ⟨A3, c3, rfl⟩ := hown.val
        clear hA e1 hown hjl
        go_wp2_with (go_at_call 44; refine cJ.mono ?_; rintro e w1 ⟨rfl, hb1⟩)
        go_ret
        exact ⟨ret_str HO.out.symm, grown_below hb hb1 hb.size⟩
  · have d4 : (40 : Int) < (O.length : Int) := by omega
    rw [HB.out fun ⟨h, _⟩ => hl h]
    clear hA
    go_enter Tryd.func12, Tryd.ntmps12
    go_wp2
    go_ret
    exact ⟨rfl, Below.refl _ _⟩
end Go.Proofs.YtajlkleoincoeabDoor
