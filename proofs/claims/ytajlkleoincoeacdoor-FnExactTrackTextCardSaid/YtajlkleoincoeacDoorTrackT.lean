/- TEXTS OF TRACKS: l03Signed, l03Text, TrackText; Key.word, TrackText. -/
import Derived.Test.YtajlkleoincoeacDoorRows
import Derived.Test.YtajlkleoincoeacDoorOrdT
import Derived.Test.YtajlkleoincoeacDoorPow
import Derived.Test.YtajlkleoincoeacDoorTrack
import Derived.Test.YtajlkleoincoeacDoorITrack
import Derived.Test.YtajlkleoincoeacDoorCellQ
namespace Go.Proofs.YtajlkleoincoeacDoor
set_option maxRecDepth 100000
open Go.RowKit
set_option linter.unusedVariables false
set_option linter.unusedSimpArgs false
set_option maxHeartbeats 1000000 in
theorem l03Signed_any (z : Int) (h1 : -99999999 ≤ z) (h2 : z ≤ 99999999) (w : World) :
    Calls Tryd.prog 100 #[.int .i64 z] w fun e w' => e = .returned (.string (bsOf (sgL z))) ∧ Below w.heap.size w w' := by
  by_cases hz : z < 0
  · have hd : decide (z < 0) = true := decide_eq_true hz
    obtain ⟨m, hm⟩ : ∃ m : Nat, z = -(m : Int) := ⟨z.natAbs, by omega⟩
    subst hm
    have cD := fun w => decimal_any m (by omega) w
    have kw : IntKind.i64.wrap (- -(m : Int)) = (m : Int) := by rw [Int.neg_neg]; exact IntWalk.i64_in _ (by omega)
    have hl := dcL_len m 17 (by omega)
    have hs := fun w => str_add [45] (dcL m) (by simp; omega) w
    have hs' : ∀ w, (Op.stringOp .add ⟨#[45]⟩ (bsOf (dcL m))).run Tryd.prog w = .ok (.string (bsOf ([45] ++ dcL m))) w := hs
    have e : sgL (-(m : Int)) = [45] ++ dcL m := by rw [sgL_neg hz]; congr 2; omega
    have kn : - -(m : Int) = (m : Int) := Int.neg_neg _
    have kw2 : IntKind.i64.wrap (m : Int) = (m : Int) := IntWalk.i64_in _ (by omega)
    have HE := Lib.hid e
    clear hs e hl
    go_enter Tryd.func100, Tryd.ntmps100
    go_wp2_with (go_at_call 99; refine (cD _).mono ?_; rintro e w1 ⟨rfl, hb⟩)
    go_ret
    exact ⟨ret_str HE.out.symm, hb⟩
  · obtain ⟨n, rfl⟩ := Int.eq_ofNat_of_zero_le (show 0 ≤ z by omega)
    have hd : decide ((n : Int) < 0) = false := decide_eq_false hz
    have cD := fun w => decimal_any n (by omega) w
    have e : sgL (n : Int) = dcL n := by rw [sgL_pos hz]; rfl
    rw [e]
    clear e
    go_enter Tryd.func100, Tryd.ntmps100
    go_wp2_with (go_at_call 99; refine (cD _).mono ?_; rintro e w1 ⟨rfl, hb⟩)
    go_ret
    exact ⟨rfl, hb⟩
/-- A key's text, in parts. -/
def kp1 (n : Int) : List UInt8 := sgL n ++ [58]
def kp2 (n x : Int) : List UInt8 := kp1 n ++ sgL x
def kp3 (n x : Int) : List UInt8 := kp2 n x ++ [44]
def wd3 (n x y : Int) : List UInt8 := kp3 n x ++ sgL y
theorem wd3_len {n x y : Int} (h0 : 0 ≤ n ∧ n ≤ 200) (hx : -24 ≤ x ∧ x ≤ 24) (hy : -24 ≤ y ∧ y ≤ 24) : ((sgL n).length ≤ 3 ∧ (kp1 n).length ≤ 4) ∧ (kp2 n x).length ≤ 7 ∧ (kp3 n x).length ≤ 8 ∧ (sgL x).length ≤ 3 ∧ (sgL y).length ≤ 3 ∧ (wd3 n x y).length ≤ 11 := by
  have h1 := sgL_len (z := n) (by omega) (by omega)
  have h2 := sgL_len (z := x) (by omega) (by omega)
  have h3 := sgL_len (z := y) (by omega) (by omega)
  unfold wd3 kp3 kp2 kp1
  simp; omega
/-- The sums, one by one. -/
theorem kp_adds {n x y : Int} (h0 : 0 ≤ n ∧ n ≤ 200) (hx : -24 ≤ x ∧ x ≤ 24) (hy : -24 ≤ y ∧ y ≤ 24) :
    (∀ w, (Op.stringOp .add (bsOf (sgL n)) ⟨#[58]⟩).run Tryd.prog w = .ok (.string (bsOf (kp1 n))) w) ∧ (∀ w, (Op.stringOp .add (bsOf (kp1 n)) (bsOf (sgL x))).run Tryd.prog w = .ok (.string (bsOf (kp2 n x))) w) ∧
    (∀ w, (Op.stringOp .add (bsOf (kp2 n x)) ⟨#[44]⟩).run Tryd.prog w = .ok (.string (bsOf (kp3 n x))) w) ∧ (∀ w, (Op.stringOp .add (bsOf (kp3 n x)) (bsOf (sgL y))).run Tryd.prog w = .ok (.string (bsOf (wd3 n x y))) w) := by
  obtain ⟨⟨h1, h2⟩, h3, h4, h5, h6, h7⟩ := wd3_len h0 hx hy
  exact ⟨fun w => str_add (sgL n) [58] (by simp; omega) w, fun w => str_add (kp1 n) (sgL x) (by omega) w, fun w => str_add (kp2 n x) [44] (by simp; omega) w, fun w => str_add (kp3 n x) (sgL y) (by omega) w⟩
def wdT (L : List (Int × Int × Int)) : List (List UInt8) := L.map fun k => wd3 k.1 k.2.1 k.2.2
theorem wdT_get {L : List (Int × Int × Int)} {k : Nat} (h : k < L.length) : (wdT L)[k]? = some (wd3 (kAt L k).1 (kAt L k).2.1 (kAt L k).2.2) := by
  unfold wdT; rw [List.getElem?_map, kAt_get h]; rfl
theorem wdT_len (L : List (Int × Int × Int)) : (wdT L).length = L.length := List.length_map _
def tkT (L : List (Int × Int × Int)) : List UInt8 := if okT L then joinW 32 (wdT L) else []
theorem wdT_word {L : List (Int × Int × Int)} (h : okT L = true) : ∀ x ∈ wdT L, x.length ≤ 11 := by
  intro x hx
  obtain ⟨i, hi⟩ := List.getElem?_of_mem hx
  have hl : i < L.length := by have := (List.getElem?_eq_some_iff.1 hi).1; rwa [wdT_len] at this
  rw [wdT_get hl] at hi
  cases hi
  have := okT_key h hl
  exact (wd3_len this.1 this.2.1 this.2.2).2.2.2.2.2
set_option maxHeartbeats 4000000 in
theorem l03Text_any (v : Value) (L : List (Int × Int × Int)) (w : World) (hok : okT L = true) (h : SlAt eKy w w.heap.size v L) :
    Calls Tryd.prog 55 #[v] w fun e w' => e = .returned (.string (bsOf (joinW 32 (wdT L)))) ∧ Below w.heap.size w w' := by
  obtain ⟨A, c, rfl, h1, h2, hA⟩ := h
  unfold maxLen at h2
  have hlen := (okT_iff.1 hok).1.2
  have hjl := fun k => joinW_take_len 32 (wdT L) 11 (wdT_word hok) k
  rw [wdT_len] at hjl
  have HW := Lib.hid fun i hi => @okT_key L hok i hi
  have HJ := Lib.hid hjl
  clear hjl hok
  go_enter Tryd.func55, Tryd.ntmps55
  go_wp2
  go_loopw [3, 4] (fun s i wr => ∃ k : Nat, k ≤ L.length ∧ i = .int .i64 k ∧ s = .string (bsOf (joinW 32 ((wdT L).take k))) ∧ Below w.heap.size w wr) (fun _ i _ => L.length - (intOf i).toNat)
  case atStart => exact ⟨0, by omega, rfl, rfl, Below.refl _ _⟩
  case round =>
    obtain ⟨k, hk, rfl, rfl, hb⟩ := hrel
    by_cases hlt : k < L.length
    · obtain ⟨b1, o1, rfl, hb1, r1⟩ := hA (by omega)
      have g1 := range_below (range_part r1 (kAt_get hlt)) hb hb1
      rw [eKy_n] at g1
      have c0 := ky_cell0 g1
      have c1 := ky_cell1 g1
      have c2 := ky_cell2 g1
      have hin := HW.out k hlt
      have hg := wdT_get hlt
      obtain ⟨n, x, y, hxy⟩ : ∃ n x y, kAt L k = (n, x, y) := ⟨_, _, _, rfl⟩
      rw [hxy] at c0 c1 c2 hin hg
      dsimp only at c0 c1 c2 hin hg
      obtain ⟨i0, i1, i2⟩ := hin
      have hwl := (wd3_len i0 i1 i2).2.2.2.2.2
      obtain ⟨a1, a2, a3, a4⟩ := kp_adds i0 i1 i2
      obtain ⟨m, rfl⟩ := Int.eq_ofNat_of_zero_le i0.1
      have k1 : IntKind.i64.wrap (m : Int) = m := IntWalk.i64_in _ (by omega)
      have k2 : IntKind.i64.wrap x = x := IntWalk.i64_in _ (by omega)
      have k3 : IntKind.i64.wrap y = y := IntWalk.i64_in _ (by omega)
      have cD := fun w => decimal_any m (by omega) w
      have e : dcL m = sgL (m : Int) := by rw [sgL_pos (by omega)]; rfl
      rw [e] at cD
      have cX := fun w => l03Signed_any x (by omega) (by omega) w
      have cY := fun w => l03Signed_any y (by omega) (by omega) w
      have hj := HJ.out k
      clear hA r1 g1 hxy i0 i1 i2 e
      by_cases hk0 : k = 0
      · subst hk0
        simp only [Nat.zero_mul, Nat.add_zero] at c0 c1 c2
        have st := joinW_take0 32 (wdT L) _ hg
        have HST := Lib.hid st
        have e0 : joinW 32 ((wdT L).take 0) = [] := rfl
        rw [e0]
        have hs2 := fun w => str_add [] (wd3 m x y) (by simp; omega) w
        rw [List.nil_append] at hs2
        clear st hg hj e0
        have q0 := cell_q c0
        have q1 := cell_q c1
        have q2 := cell_q c2
        clear c0 c1 c2
        go_wp2_with fail
        refine wp_region_calm (by kernel_rfl) (by kernel_rfl) ?_
        repeat (quiet_step (first | with_reducible exact Calls.regrown_of (cD _) | with_reducible exact Calls.regrown_of (cX _) | with_reducible exact Calls.regrown_of (cY _)))
        refine wpQuiet_nil ?_
        intro w3 hb3
        go_wp2
        go_roundw
        case rel =>
          go_light
          exact ⟨1, by omega, by go_num, by rw [HST.out], grown_below hb hb3 hb.size⟩
        case measure => simp [intOf]; omega
      · have st := joinW_take 32 (wdT L) k _ hg (by omega)
        have HST := Lib.hid st
        generalize joinW 32 ((wdT L).take k) = J at *
        have hs1 := fun w => str_add J [32] (by simp; omega) w
        have hs2 := fun w => str_add (J ++ [32]) (wd3 m x y) (by simp; omega) w
        have hs1' : ∀ w, (Op.stringOp .add (bsOf J) ⟨#[32]⟩).run Tryd.prog w = .ok (.string (bsOf (J ++ [32]))) w := hs1
        have hkp : (0 : Int) < (k : Int) := by omega
        clear st hg hj hs1 hk0
        have q0 := cell_q c0
        have q1 := cell_q c1
        have q2 := cell_q c2
        clear c0 c1 c2
        go_wp2_with fail
        refine wp_region_calm (by kernel_rfl) (by kernel_rfl) ?_
        repeat (quiet_step (first | with_reducible exact Calls.regrown_of (cD _) | with_reducible exact Calls.regrown_of (cX _) | with_reducible exact Calls.regrown_of (cY _)))
        refine wpQuiet_nil ?_
        intro w3 hb3
        go_wp2
        go_roundw
        case rel =>
          go_light
          exact ⟨k + 1, by omega, by go_num, by rw [HST.out, List.append_assoc]; rfl, grown_below hb hb3 hb.size⟩
        case measure => simp [intOf]; omega
    · have hkl : k = L.length := by omega
      subst hkl
      have e1 : (wdT L).take L.length = wdT L := List.take_of_length_le (by rw [wdT_len]; exact Nat.le_refl _)
      rw [e1]
      clear hA e1
      go_wp2
      go_ret
      exact ⟨rfl, hb⟩
set_option maxHeartbeats 1000000 in
theorem specTrackText_any (v : Value) (L : List (Int × Int × Int)) (w : World) (hL : ltK L) (h : SlAt eKy w w.heap.size v L) :
    Calls Tryd.prog 22 #[v] w fun e w' => e = .returned (.string (bsOf (tkT L))) ∧ Below w.heap.size w w' := by
  have cP := specOkT_any v L w hL h
  have cT := fun ho (w1 : World) (hb : Below w.heap.size w w1) => l03Text_any v L w1 ho (h.later hb)
  obtain ⟨A, c, rfl⟩ := h.form
  cases ho : okT L with
  | false =>
    have e : tkT L = [] := by unfold tkT; rw [ho]; rfl
    rw [ho] at cP
    rw [e]
    clear cT h ho e
    go_enter Tryd.func22, Tryd.ntmps22
    go_wp2_with (go_at_call 48; refine cP.mono ?_; rintro e w1 ⟨rfl, hb⟩)
    go_ret
    exact ⟨rfl, hb⟩
  | true =>
    have e : tkT L = joinW 32 (wdT L) := by unfold tkT; rw [ho]; rfl
    rw [ho] at cP
    replace cT := cT ho
    rw [e]
    clear h ho e
    go_enter Tryd.func22, Tryd.ntmps22
    go_wp2_with (first | (go_at_call 48; refine cP.mono ?_; rintro e w1 ⟨rfl, hb1⟩) | (go_at_call 55; refine (cT _ hb1).mono ?_; rintro e w2 ⟨rfl, hb⟩))
    go_ret
    exact ⟨rfl, grown_below hb1 hb hb1.size⟩
set_option maxHeartbeats 1000000 in
theorem keyWord_any (n x y : Int) (h0 : 0 ≤ n ∧ n ≤ 200) (hx : -24 ≤ x ∧ x ≤ 24) (hy : -24 ≤ y ∧ y ≤ 24) (w : World) (hP : Pw w) :
    Calls Tryd.prog 57 #[.agg #[.int .i16 n, .int .i8 x, .int .i8 y]] w fun e w' => e = .returned (.string (bsOf (wd3 n x y))) ∧ Below w.heap.size w w' := by
  obtain ⟨a1, a2, a3, a4⟩ := kp_adds h0 hx hy
  have k1 : IntKind.i64.wrap n = n := IntWalk.i64_in _ (by omega)
  have k2 : IntKind.i64.wrap x = x := IntWalk.i64_in _ (by omega)
  have k3 : IntKind.i64.wrap y = y := IntWalk.i64_in _ (by omega)
  have h1 := (Below.refl w.heap.size w).alloc (Nat.le_refl _) (.cells #[.int .i16 n, .int .i8 x, .int .i8 y] 82)
  have hP1 := hP.below h1
  have rN := Row.new w 82 #[.int .i16 n, .int .i8 x, .int .i8 y]
  have q0 := cell_q (show (w.alloc (.cells #[.int .i16 n, .int .i8 x, .int .i8 y] 82)).cell? ⟨w.heap.size, 0, none⟩ = some (.int .i16 n) from rN.cell 0)
  have q1 := cell_q (show (w.alloc (.cells #[.int .i16 n, .int .i8 x, .int .i8 y] 82)).cell? ⟨w.heap.size, 1, none⟩ = some (.int .i8 x) from rN.cell 1)
  have q2 := cell_q (show (w.alloc (.cells #[.int .i16 n, .int .i8 x, .int .i8 y] 82)).cell? ⟨w.heap.size, 2, none⟩ = some (.int .i8 y) from rN.cell 2)
  clear rN hP
  go_enter Tryd.func57, Tryd.ntmps57
  go_wp2_with fail
  generalize w.alloc (.cells #[.int .i16 n, .int .i8 x, .int .i8 y] 82) = w1 at *
  have cN := fun (p : Regrown) => itoa_any n (by omega) (by omega) (Go.Sort.grow (redrawn w1 p.d) p.os) (hP1.below (below_regrown w1 p.d p.os))
  have cX := fun (p : Regrown) => itoa_any x (by omega) (by omega) (Go.Sort.grow (redrawn w1 p.d) p.os) (hP1.below (below_regrown w1 p.d p.os))
  have cY := fun (p : Regrown) => itoa_any y (by omega) (by omega) (Go.Sort.grow (redrawn w1 p.d) p.os) (hP1.below (below_regrown w1 p.d p.os))
  refine wp_region_calm (by kernel_rfl) (by kernel_rfl) ?_
  repeat (quiet_step (first | with_reducible exact Calls.regrown_of (cN _) | with_reducible exact Calls.regrown_of (cX _) | with_reducible exact Calls.regrown_of (cY _)))
  refine wpQuiet_nil ?_
  intro w3 hb3
  go_wp2
  go_ret
  exact ⟨rfl, grown_below h1 hb3 h1.size⟩
set_option maxHeartbeats 2000000 in
theorem implTrackText_any (v : Value) (L : List (Int × Int × Int)) (w : World) (hL : ltK L) (hP : Pw w) (h : SlAt eKy w w.heap.size v L) :
    Calls Tryd.prog 23 #[v] w fun e w' => e = .returned (.string (bsOf (tkT L))) ∧ Below w.heap.size w w' := by
  have cI := implValidTrack_any v L w hL h
  obtain ⟨A, c, rfl, h1, h2, hA⟩ := h
  unfold maxLen at h2
  cases ho : okT L with
  | false =>
    have e : tkT L = [] := by unfold tkT; rw [ho]; rfl
    rw [ho] at cI
    rw [e]
    clear ho e hA
    go_enter Tryd.func23, Tryd.ntmps23
    go_wp2_with (go_at_call 56; refine cI.mono ?_; rintro e w1 ⟨rfl, hb⟩)
    go_ret
    exact ⟨rfl, hb⟩
  | true =>
    have e : tkT L = joinW 32 (wdT L) := by unfold tkT; rw [ho]; rfl
    rw [ho] at cI
    rw [e]
    have hlen := (okT_iff.1 ho).1.2
    have HW := Lib.hid fun i hi => @okT_key L ho i hi
    have HX := Lib.hid (wdT_word ho)
    have HP := Lib.hid hP
    clear ho e hP
    go_enter Tryd.func23, Tryd.ntmps23
    go_wp2_with (go_at_call 56; refine cI.mono ?_; rintro e w1 ⟨rfl, hb0⟩)
    have hown := OwnL.nil_ (E := eStr) w1 w.heap.size 9
    go_loopw [3, 11] (fun u i wr => ∃ k : Nat, k ≤ L.length ∧ i = .int .i64 k ∧ OwnL eStr wr w.heap.size 9 u ((wdT L).take k) ∧ Below w.heap.size w wr) (fun _ i _ => L.length - (intOf i).toNat)
    case atStart => exact ⟨0, by omega, rfl, hown, hb0⟩
    case round =>
      clear hown hb0
      obtain ⟨k, hk, rfl, hown, hb⟩ := hrel
      by_cases hlt : k < L.length
      · obtain ⟨b1, o1, rfl, hb1, r1⟩ := hA (by omega)
        have g1 := range_below (range_part r1 (kAt_get hlt)) hb hb1
        rw [eKy_n] at g1
        have hin := HW.out k hlt
        have hg := wdT_get hlt
        obtain ⟨n, x, y, hxy⟩ : ∃ n x y, kAt L k = (n, x, y) := ⟨_, _, _, rfl⟩
        rw [hxy] at g1 hin hg
        dsimp only at hin hg
        obtain ⟨i0, i1, i2⟩ := hin
        have hst : (wdT L).take (k + 1) = (wdT L).take k ++ [wd3 n x y] := by rw [List.take_add_one, hg]; rfl
        have HST := Lib.hid hst
        have htl : ((wdT L).take k).length ≤ 1000000000 := by rw [List.length_take]; omega
        have hnb := hb.alloc hb.size (.cells (KC (n, x, y)) 82)
        have hno := hown.alloc (.cells (KC (n, x, y)) 82)
        have cW := keyWord_any n x y i0 i1 i2 _ (HP.out.below hnb)
        clear hA r1 hst hg hxy i0 i1 i2
        go_wp2_with (first | (refine wpList_load_el (E := eKy) rfl 82 _ rfl _ _ rfl (n, x, y) #[.int .i16 n, .int .i8 x, .int .i8 y] rfl g1 Tryd.underlying82 rfl (by kernel_rfl) ?_) | (go_at_call 57; refine cW.mono ?_; rintro e w3 ⟨rfl, hb3⟩; replace hnb := grown_below hnb hb3 hnb.size; replace hno := hno.below hb3; have hzb := hnb.size) | (at_builtin; refine wpList_append_one rfl _ _ 91 rfl w.heap.size 9 Tryd.underlying91 infoStr rfl (by decide) (by omega) (hno.alloc _) rfl (wd3 n x y) rfl (range_new _ _ _) htl (by simp; omega) ?_; intro v' w4 hown' hgrow))
        go_roundw
        case rel =>
          go_light
          refine ⟨k + 1, by omega, by go_num, ?_, (hno.alloc _).grown_below (hnb.alloc hnb.size _) hgrow (Nat.le_refl _) (by simp; omega)⟩
          rw [HST.out]; exact hown'
        case measure => simp [intOf]; omega
      · have hkl : k = L.length := by omega
        subst hkl
        have e1 : (wdT L).take L.length = wdT L := List.take_of_length_le (by rw [wdT_len]; exact Nat.le_refl _)
        rw [e1] at hown
        have hjl := joinW_len 32 (wdT L) 11 HX.out
        rw [wdT_len] at hjl
        have cJ := join_any _ (wdT L) 32 wr (by rw [wdT_len]; omega) (by omega) (hown.sl (by decide))
        obtain ⟨A3, c3, rfl⟩ := hown.val
        clear hA e1 hown hjl
        go_wp2_with (go_at_call 58; refine cJ.mono ?_; rintro e w1 ⟨rfl, hb1⟩)
        go_ret
        exact ⟨rfl, grown_below hb hb1 hb.size⟩
end Go.Proofs.YtajlkleoincoeacDoor
