/- TEXTS OF SHEETS: l02Plain, l02SheetText, SheetText; Shot.word, SheetText. -/
import Derived.Test.YtajlkleoincoeabDoorRows
import Derived.Test.YtajlkleoincoeabDoorOrdT
import Derived.Test.YtajlkleoincoeabDoorSheet
import Derived.Test.YtajlkleoincoeabDoorCellQ
namespace Go.Proofs.YtajlkleoincoeabDoor
set_option maxRecDepth 100000
open Go.RowKit
set_option linter.unusedVariables false
set_option linter.unusedSimpArgs false
theorem okS_no {n : Nat} {L : List (Int × Int)} (h : ¬ (L.length ≤ 80 ∧ ∀ i, i < L.length → inS n (sAt L i) = true)) : okS n L = false := by
  cases ho : okS n L with
  | false => rfl
  | true => exact absurd (okS_iff.1 ho) h
set_option maxHeartbeats 1000000 in
theorem l02Plain_any (v : Value) (S : List (Int × Int)) (w : World) (hS : ltS S) (h : SlAt eSh w w.heap.size v S) :
    Calls Tryd.prog 49 #[v] w fun e w' => e = .returned (.bool (okS 40 S)) ∧ w' = w := by
  obtain ⟨A, c, rfl, h1, h2, hA⟩ := h
  unfold maxLen at h2
  go_enter Tryd.func49, Tryd.ntmps49
  go_wp2
  go_loopw [3] (fun i wr => ∃ k : Nat, k ≤ S.length ∧ i = .int .i64 k ∧ (∀ j, j < k → inS 40 (sAt S j) = true) ∧ wr = w) (fun i _ => S.length - (intOf i).toNat)
  case atStart => exact ⟨0, by omega, rfl, by omega, rfl⟩
  case round =>
    obtain ⟨k, hk, rfl, he, rfl⟩ := hrel
    have HE := Lib.hid he
    clear he
    by_cases hlt : k < S.length
    · obtain ⟨b1, o1, rfl, hb1, r1⟩ := hA (by omega)
      have g1 := range_part r1 (sAt_get hlt)
      rw [eSh_n] at g1
      have c0 := sh_cell0 g1
      have c1 := sh_cell1 g1
      have hl8 := sAt_lt hS k
      have hI : inS 40 (sAt S k) = (inB (sAt S k).1 0 39 && inB (sAt S k).2 1 24) := rfl
      clear hA r1 g1
      generalize hx : (sAt S k).1 = x at *
      generalize hy : (sAt S k).2 = y at *
      have k1 : IntKind.i64.wrap x = x := IntWalk.i64_in _ (by have := hl8.1; omega)
      have k2 : IntKind.i64.wrap y = y := IntWalk.i64_in _ (by have := hl8.2; omega)
      have cA := fun W => in_any x 0 39 W
      have cB := fun W => in_any y 1 24 W
      clear hl8 hx hy
      cases hp : inB x 0 39 with
      | false =>
        rw [hp] at cA
        have HI := Lib.hid (hI.trans (by rw [hp, Bool.false_and]))
        clear hI hp cB
        go_wp2_with (go_at_call 40; refine (cA _).mono ?_; rintro e w9 ⟨rfl, rfl⟩)
        go_ret
        exact ⟨ret_bool (okS_at hlt HI.out).symm, by trivial⟩
      | true =>
        rw [hp] at cA
        cases hq : inB y 1 24 with
        | false =>
          rw [hq] at cB
          have HI := Lib.hid (hI.trans (by rw [hp, hq, Bool.and_false]))
          clear hI hp hq
          go_wp2_with ((go_at_call 40; first | (refine (cA _).mono ?_; rintro e w9 ⟨rfl, rfl⟩; clear cA) | (refine (cB _).mono ?_; rintro e w9 ⟨rfl, rfl⟩; clear cB)))
          go_ret
          exact ⟨ret_bool (okS_at hlt HI.out).symm, by trivial⟩
        | true =>
          rw [hq] at cB
          have HI := Lib.hid (hI.trans (by rw [hp, hq, Bool.and_true]))
          clear hI hp hq
          go_wp2_with ((go_at_call 40; first | (refine (cA _).mono ?_; rintro e w9 ⟨rfl, rfl⟩; clear cA) | (refine (cB _).mono ?_; rintro e w9 ⟨rfl, rfl⟩; clear cB)))
          go_roundw
          case rel =>
            go_light
            refine ⟨k + 1, by omega, by go_num, ?_, by trivial⟩
            intro j hj
            rcases Nat.lt_succ_iff_lt_or_eq.1 hj with h | rfl
            · exact HE.out j h
            · exact HI.out
          case measure => simp [intOf]; omega
    · have hkl : k = S.length := by omega
      subst hkl
      clear hA
      by_cases h80 : S.length ≤ 80
      · have e1 : decide ((S.length : Int) ≤ 80) = true := decide_eq_true (by omega)
        go_wp2
        go_ret
        exact ⟨ret_bool (okS_iff.2 ⟨h80, HE.out⟩).symm, by trivial⟩
      · have e1 : decide ((S.length : Int) ≤ 80) = false := decide_eq_false (by omega)
        go_wp2
        go_ret
        exact ⟨ret_bool (okS_len (by omega)).symm, by trivial⟩
/-- A shot's text. -/
def wd2 (n m : Nat) : List UInt8 := dcL n ++ [120] ++ dcL m
theorem wd2_len {n m : Nat} (h1 : n < 100) (h2 : m < 100) : (wd2 n m).length ≤ 5 := by have := dcL_len2 h1; have := dcL_len2 h2; unfold wd2; simp; omega
theorem wd2_add {n m : Nat} (h1 : n < 100) (h2 : m < 100) (w : World) : (Op.stringOp .add (bsOf (dcL n ++ [120])) (bsOf (dcL m))).run Tryd.prog w = .ok (.string (bsOf (wd2 n m))) w := by have := dcL_len2 h1; have := dcL_len2 h2; exact str_add (dcL n ++ [120]) (dcL m) (by simp; omega) w
def wdS (S : List (Int × Int)) : List (List UInt8) := S.map fun s => wd2 s.1.toNat s.2.toNat
theorem wdS_get {S : List (Int × Int)} {k : Nat} (h : k < S.length) : (wdS S)[k]? = some (wd2 (sAt S k).1.toNat (sAt S k).2.toNat) := by
  unfold wdS; rw [List.getElem?_map, sAt_get h]; rfl
theorem wdS_len (S : List (Int × Int)) : (wdS S).length = S.length := List.length_map _
def shT (S : List (Int × Int)) : List UInt8 := if okS 40 S then joinW 32 (wdS S) else []
theorem inS_40 {s : Int × Int} (h : inS 40 s = true) : (0 ≤ s.1 ∧ s.1 ≤ 39) ∧ 1 ≤ s.2 ∧ s.2 ≤ 24 := by
  unfold inS at h
  rw [Bool.and_eq_true, inB_iff, inB_iff] at h
  have h1 := h.1
  have h2 := h.2
  exact ⟨⟨h1.1, by have := h1.2; omega⟩, h2⟩
theorem wdS_word {S : List (Int × Int)} (h : ∀ i, i < S.length → inS 40 (sAt S i) = true) : ∀ x ∈ wdS S, x.length ≤ 5 := by
  intro x hx
  obtain ⟨i, hi⟩ := List.getElem?_of_mem hx
  have hl : i < S.length := by have := (List.getElem?_eq_some_iff.1 hi).1; rwa [wdS_len] at this
  rw [wdS_get hl] at hi
  cases hi
  have := inS_40 (h i hl)
  exact wd2_len (by omega) (by omega)
set_option maxHeartbeats 2000000 in
theorem l02SheetText_any (v : Value) (S : List (Int × Int)) (w : World) (hok : okS 40 S = true) (h : SlAt eSh w w.heap.size v S) :
    Calls Tryd.prog 50 #[v] w fun e w' => e = .returned (.string (bsOf (joinW 32 (wdS S)))) ∧ Below w.heap.size w w' := by
  obtain ⟨hlen, hall⟩ := okS_iff.1 hok
  obtain ⟨A, c, rfl, h1, h2, hA⟩ := h
  unfold maxLen at h2
  have hjl := fun k => joinW_take_len 32 (wdS S) 5 (wdS_word hall) k
  rw [wdS_len] at hjl
  have HW := Lib.hid hall
  have HJ := Lib.hid hjl
  clear hall hjl hok
  go_enter Tryd.func50, Tryd.ntmps50
  go_wp2
  go_loopw [3, 4] (fun s i wr => ∃ k : Nat, k ≤ S.length ∧ i = .int .i64 k ∧ s = .string (bsOf (joinW 32 ((wdS S).take k))) ∧ Below w.heap.size w wr) (fun _ i _ => S.length - (intOf i).toNat)
  case atStart => exact ⟨0, by omega, rfl, rfl, Below.refl _ _⟩
  case round =>
    obtain ⟨k, hk, rfl, rfl, hb⟩ := hrel
    by_cases hlt : k < S.length
    · obtain ⟨b1, o1, rfl, hb1, r1⟩ := hA (by omega)
      have g1 := range_below (range_part r1 (sAt_get hlt)) hb hb1
      rw [eSh_n] at g1
      have c0 := sh_cell0 g1
      have c1 := sh_cell1 g1
      have hin := inS_40 (HW.out k hlt)
      have hg := wdS_get hlt
      obtain ⟨n, hn⟩ := Int.eq_ofNat_of_zero_le hin.1.1
      obtain ⟨m, hm⟩ := Int.eq_ofNat_of_zero_le (show 0 ≤ (sAt S k).2 by omega)
      rw [hn] at c0 hin hg
      rw [hm] at c1 hin hg
      rw [Int.toNat_natCast, Int.toNat_natCast] at hg
      have hn40 : n < 100 := by omega
      have hm40 : m < 100 := by omega
      have k1 : IntKind.i64.wrap (n : Int) = n := IntWalk.i64_in _ (by omega)
      have k2 : IntKind.i64.wrap (m : Int) = m := IntWalk.i64_in _ (by omega)
      have d1 := dcL_len2 hn40
      have d2 := dcL_len2 hm40
      have hj := HJ.out k
      have cD1 := fun w => decimal_any n (by omega) w
      have cD2 := fun w => decimal_any m (by omega) w
      have hs3 := fun w => str_add (dcL n) [120] (by simp; omega) w
      have hs4 := fun w => wd2_add hn40 hm40 w
      have d3 := wd2_len hn40 hm40
      have hs3' : ∀ w, (Op.stringOp .add (bsOf (dcL n)) ⟨#[120]⟩).run Tryd.prog w = .ok (.string (bsOf (dcL n ++ [120]))) w := hs3
      clear hA r1 g1 hn hm hin hs3
      by_cases hk0 : k = 0
      · subst hk0
        simp only [Nat.zero_mul, Nat.add_zero] at c0 c1
        have st := joinW_take0 32 (wdS S) _ hg
        have HST := Lib.hid st
        have e0 : joinW 32 ((wdS S).take 0) = [] := rfl
        rw [e0]
        have hs2 := fun w => str_add [] (wd2 n m) (by simp; omega) w
        rw [List.nil_append] at hs2
        clear st hg hj e0
        have q0 := cell_q c0
        have q1 := cell_q c1
        clear c0 c1
        go_wp2_with fail
        refine wp_region_calm (by kernel_rfl) (by kernel_rfl) ?_
        repeat (quiet_step (first | with_reducible exact Calls.regrown_of (cD1 _) | with_reducible exact Calls.regrown_of (cD2 _)))
        refine wpQuiet_nil ?_
        intro w3 hb3
        go_wp2
        go_roundw
        case rel =>
          go_light
          exact ⟨1, by omega, by go_num, by rw [HST.out], grown_below hb hb3 hb.size⟩
        case measure => simp [intOf]; omega
      · have st := joinW_take 32 (wdS S) k _ hg (by omega)
        have HST := Lib.hid st
        generalize joinW 32 ((wdS S).take k) = J at *
        have hs1 := fun w => str_add J [32] (by simp; omega) w
        have hs2 := fun w => str_add (J ++ [32]) (wd2 n m) (by simp; omega) w
        have hs1' : ∀ w, (Op.stringOp .add (bsOf J) ⟨#[32]⟩).run Tryd.prog w = .ok (.string (bsOf (J ++ [32]))) w := hs1
        have hkp : (0 : Int) < (k : Int) := by omega
        clear st hg hj hs1 hk0
        have q0 := cell_q c0
        have q1 := cell_q c1
        clear c0 c1
        go_wp2_with fail
        refine wp_region_calm (by kernel_rfl) (by kernel_rfl) ?_
        repeat (quiet_step (first | with_reducible exact Calls.regrown_of (cD1 _) | with_reducible exact Calls.regrown_of (cD2 _)))
        refine wpQuiet_nil ?_
        intro w3 hb3
        go_wp2
        go_roundw
        case rel =>
          go_light
          exact ⟨k + 1, by omega, by go_num, by rw [HST.out, List.append_assoc]; rfl, grown_below hb hb3 hb.size⟩
        case measure => simp [intOf]; omega
    · have hkl : k = S.length := by omega
      subst hkl
      have e1 : (wdS S).take S.length = wdS S := List.take_of_length_le (by rw [wdS_len]; exact Nat.le_refl _)
      rw [e1]
      clear hA e1
      go_wp2
      go_ret
      exact ⟨rfl, hb⟩

set_option maxHeartbeats 1000000 in
theorem specSheetText_any (v : Value) (S : List (Int × Int)) (w : World) (hS : ltS S) (h : SlAt eSh w w.heap.size v S) :
    Calls Tryd.prog 20 #[v] w fun e w' => e = .returned (.string (bsOf (shT S))) ∧ Below w.heap.size w w' := by
  have cP := l02Plain_any v S w hS h
  have cT := fun ho => l02SheetText_any v S w ho h
  obtain ⟨A, c, rfl⟩ := h.form
  cases ho : okS 40 S with
  | false =>
    have e : shT S = [] := by unfold shT; rw [ho]; rfl
    rw [ho] at cP
    rw [e]
    clear cT h ho e
    go_enter Tryd.func20, Tryd.ntmps20
    go_wp2_with (go_at_call 49; refine cP.mono ?_; rintro e w' ⟨rfl, rfl⟩)
    go_ret
    exact ⟨rfl, Below.refl _ _⟩
  | true =>
    have e : shT S = joinW 32 (wdS S) := by unfold shT; rw [ho]; rfl
    rw [ho] at cP
    replace cT := cT ho
    rw [e]
    clear h ho e
    go_enter Tryd.func20, Tryd.ntmps20
    go_wp2_with (first | (go_at_call 49; refine cP.mono ?_; rintro e w' ⟨rfl, rfl⟩) | (go_at_call 50; refine cT.mono ?_; rintro e w1 ⟨rfl, hb⟩))
    go_ret
    exact ⟨rfl, hb⟩
set_option maxHeartbeats 1000000 in
theorem shotWord_any (x y : Nat) (hx : x < 100) (hy : y < 100) (w : World) :
    Calls Tryd.prog 54 #[.agg #[.int .i8 x, .int .i8 y]] w fun e w' => e = .returned (.string (bsOf (wd2 x y))) ∧ Below w.heap.size w w' := by
  have d1 := dcL_len2 hx
  have d2 := dcL_len2 hy
  have k1 : IntKind.i64.wrap (x : Int) = x := IntWalk.i64_in _ (by omega)
  have k2 : IntKind.i64.wrap (y : Int) = y := IntWalk.i64_in _ (by omega)
  have hs3 := fun w => str_add (dcL x) [120] (by simp; omega) w
  have hs4 := fun w => wd2_add hx hy w
  have hs3' : ∀ w, (Op.stringOp .add (bsOf (dcL x)) ⟨#[120]⟩).run Tryd.prog w = .ok (.string (bsOf (dcL x ++ [120]))) w := hs3
  have cI := fun (n : Nat) (h : n < 100) (w : World) => (Tryd.strconv_Itoa_small n h w).mono (R' := fun e w' => e = .returned (.string (bsOf (dcL n))) ∧ Below w.heap.size w w') fun e w' ⟨a, b⟩ => ⟨a, b ▸ Below.refl _ _⟩
  have cD1 := cI x hx
  have cD2 := cI y hy
  have rN := Row.new w 74 #[.int .i8 x, .int .i8 y]
  have q0 := cell_q (show (w.alloc (.cells #[.int .i8 x, .int .i8 y] 74)).cell? ⟨w.heap.size, 0, none⟩ = some (.int .i8 x) from rN.cell 0)
  have q1 := cell_q (show (w.alloc (.cells #[.int .i8 x, .int .i8 y] 74)).cell? ⟨w.heap.size, 1, none⟩ = some (.int .i8 y) from rN.cell 1)
  have h0 := (Below.refl w.heap.size w).alloc (Nat.le_refl _) (.cells #[.int .i8 x, .int .i8 y] 74)
  clear hs3 cI rN
  go_enter Tryd.func54, Tryd.ntmps54
  go_wp2_with fail
  generalize w.alloc (.cells #[.int .i8 x, .int .i8 y] 74) = w1 at *
  refine wp_region_calm (by kernel_rfl) (by kernel_rfl) ?_
  repeat (quiet_step (first | with_reducible exact Calls.regrown_of (cD1 _) | with_reducible exact Calls.regrown_of (cD2 _)))
  refine wpQuiet_nil ?_
  intro w3 hb3
  go_wp2
  go_ret
  exact ⟨rfl, grown_below h0 hb3 h0.size⟩
set_option maxHeartbeats 2000000 in
theorem implSheetText_any (v : Value) (S : List (Int × Int)) (w : World) (hS : ltS S) (h : SlAt eSh w w.heap.size v S) :
    Calls Tryd.prog 22 #[v] w fun e w' => e = .returned (.string (bsOf (shT S))) ∧ Below w.heap.size w w' := by
  have cI := isSheet_any v 40 S w (by omega) hS h
  obtain ⟨A, c, rfl, h1, h2, hA⟩ := h
  unfold maxLen at h2
  cases ho : okS 40 S with
  | false =>
    have e : shT S = [] := by unfold shT; rw [ho]; rfl
    rw [ho] at cI
    rw [e]
    clear ho e hA
    go_enter Tryd.func22, Tryd.ntmps22
    go_wp2_with (go_at_call 53; refine cI.mono ?_; rintro e w1 ⟨rfl, hb⟩)
    go_ret
    exact ⟨rfl, hb⟩
  | true =>
    have e : shT S = joinW 32 (wdS S) := by unfold shT; rw [ho]; rfl
    rw [ho] at cI
    rw [e]
    obtain ⟨hlen, hall⟩ := okS_iff.1 ho
    have HW := Lib.hid hall
    clear ho e hall
    go_enter Tryd.func22, Tryd.ntmps22
    go_wp2_with (go_at_call 53; refine cI.mono ?_; rintro e w1 ⟨rfl, hb0⟩)
    have hown := OwnL.nil_ (E := eStr) w1 w.heap.size 9
    go_loopw [3, 11] (fun u i wr => ∃ k : Nat, k ≤ S.length ∧ i = .int .i64 k ∧ OwnL eStr wr w.heap.size 9 u ((wdS S).take k) ∧ Below w.heap.size w wr) (fun _ i _ => S.length - (intOf i).toNat)
    case atStart => exact ⟨0, by omega, rfl, hown, hb0⟩
    case round =>
      clear hown hb0
      obtain ⟨k, hk, rfl, hown, hb⟩ := hrel
      by_cases hlt : k < S.length
      · obtain ⟨b1, o1, rfl, hb1, r1⟩ := hA (by omega)
        have g1 := range_below (range_part r1 (sAt_get hlt)) hb hb1
        rw [eSh_n] at g1
        have hin := inS_40 (HW.out k hlt)
        have hg := wdS_get hlt
        obtain ⟨x, y, hxy⟩ : ∃ x y, sAt S k = (x, y) := ⟨_, _, rfl⟩
        rw [hxy] at g1 hin hg
        dsimp only at hin hg
        obtain ⟨n, rfl⟩ := Int.eq_ofNat_of_zero_le hin.1.1
        obtain ⟨m, rfl⟩ := Int.eq_ofNat_of_zero_le (show 0 ≤ y by omega)
        rw [Int.toNat_natCast, Int.toNat_natCast] at hg
        have cW := fun w => shotWord_any n m (by omega) (by omega) w
        have hst : (wdS S).take (k + 1) = (wdS S).take k ++ [wd2 n m] := by rw [List.take_add_one, hg]; rfl
        have HST := Lib.hid hst
        have htl : ((wdS S).take k).length ≤ 1000000000 := by rw [List.length_take]; omega
        have hnb := hb.alloc hb.size (.cells (SC ((n : Int), (m : Int))) 74)
        have hno := hown.alloc (.cells (SC ((n : Int), (m : Int))) 74)
        clear hA r1 hst hg hxy hin
        go_wp2_with (first | (refine wpList_load_el (E := eSh) rfl 74 _ rfl _ _ rfl ((n : Int), (m : Int)) #[.int .i8 n, .int .i8 m] rfl g1 Tryd.underlying74 rfl (by kernel_rfl) ?_) | (go_at_call 54; refine (cW _).mono ?_; rintro e w3 ⟨rfl, hb3⟩; replace hnb := grown_below hnb hb3 hnb.size; replace hno := hno.below hb3; have hzb := hnb.size) | (at_builtin; refine wpList_append_one rfl _ _ 58 rfl w.heap.size 9 Tryd.underlying58 infoStr rfl (by decide) (by omega) (hno.alloc _) rfl (wd2 n m) rfl (range_new _ _ _) htl (by simp; omega) ?_; intro v' w4 hown' hgrow))
        go_roundw
        case rel =>
          go_light
          refine ⟨k + 1, by omega, by go_num, ?_, (hno.alloc _).grown_below (hnb.alloc hnb.size _) hgrow (Nat.le_refl _) (by simp; omega)⟩
          rw [HST.out]; exact hown'
        case measure => simp [intOf]; omega
      · have hkl : k = S.length := by omega
        subst hkl
        have e1 : (wdS S).take S.length = wdS S := List.take_of_length_le (by rw [wdS_len]; exact Nat.le_refl _)
        rw [e1] at hown
        have hjl := joinW_len 32 (wdS S) 5 (wdS_word HW.out)
        rw [wdS_len] at hjl
        have cJ := join_any _ (wdS S) 32 wr (by rw [wdS_len]; omega) (by omega) (hown.sl (by decide))
        obtain ⟨A3, c3, rfl⟩ := hown.val
        clear hA e1 hown hjl
        go_wp2_with (go_at_call 44; refine cJ.mono ?_; rintro e w1 ⟨rfl, hb1⟩)
        go_ret
        exact ⟨rfl, grown_below hb hb1 hb.size⟩
end Go.Proofs.YtajlkleoincoeabDoor
