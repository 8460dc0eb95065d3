/- PageAt: spec and impl. -/
import Derived.Test.YthkpefdjhdemeacShown
namespace Go.Proofs.Ythkpefdjhdemeac
set_option maxRecDepth 100000
open Go.RowKit
set_option linter.unusedVariables false
set_option linter.unusedSimpArgs false
theorem shown_split (S : List (Int × Int)) (k : Nat) : shownL S = shownL (S.take k) ++ shownL (S.drop k) := by
  conv => lhs; rw [← List.take_append_drop k S]
  unfold shownL
  rw [List.flatMap_append]
theorem shown_get {S : List (Int × Int)} {k t : Nat} (hk : k < S.length) (h1 : (shownL (S.take k)).length ≤ t) (h2 : t < (shownL (S.take k)).length + (sAt S k).2.toNat) : (shownL S).getD t 0 = (sAt S k).1 := by
  rw [shown_split S (k + 1), shown_take hk, List.getD_eq_getElem?_getD, List.getElem?_append_left (by rw [List.length_append, List.length_replicate]; omega), List.getElem?_append_right h1, List.getElem?_replicate, if_pos (by omega)]
  rfl
def paC (L : List (Nat → Nat)) (S : List (Int × Int)) (t : Int) : Int := if okBS L S then (if inB t 0 (((shownL S).length : Int) - 1) then 0 else 2) else 1
theorem paC_cases (L : List (Nat → Nat)) (S : List (Int × Int)) (t : Int) : (okBS L S = false ∧ paC L S t = 1) ∨ (okBS L S = true ∧ inB t 0 (((shownL S).length : Int) - 1) = false ∧ paC L S t = 2) ∨ (okBS L S = true ∧ inB t 0 (((shownL S).length : Int) - 1) = true ∧ paC L S t = 0) := by
  unfold paC; cases okBS L S <;> cases inB t 0 (((shownL S).length : Int) - 1) <;> simp
def paV (L : List (Nat → Nat)) (S : List (Int × Int)) (t : Int) : Int := ifI (paC L S t) ((shownL S).getD t.toNat 0)
set_option maxHeartbeats 1000000 in
theorem specPageAt_any (v u : Value) (L : List (Nat → Nat)) (S : List (Int × Int)) (t : Int) (w : World) (hS : ltS S) (h : SlAt eFr w w.heap.size v L) (hs : SlAt eSh w w.heap.size u S) :
    Calls Try.prog 34 #[v, u, .int .i64 t] w fun e w' => e = .returned (.tuple #[.int .i64 (paV L S t), .int .i64 (paC L S t)]) ∧ Below w.heap.size w w' := by
  have cO := specSheet_any v u L S w hS h hs
  have cS := fun (w' : World) (hb : Below w.heap.size w w') (ho : okBS L S = true) => shown_any u L.length S w' (okBS_parts ho).2.2 (okBS_parts ho).2.1 (hs.later hb)
  obtain ⟨A, c, rfl⟩ := h.form
  obtain ⟨B, d, rfl⟩ := hs.form
  clear h hs
  unfold paV
  rcases paC_cases L S t with ⟨ho, hc⟩ | ⟨ho, hi, hc⟩ | ⟨ho, hi, hc⟩
  · rw [ho] at cO
    rw [hc, ifI1 _ (by decide)]
    clear cS ho hc
    go_enter Try.func34, Try.ntmps34
    go_wp2_with (go_at_call 59; refine cO.mono ?_; rintro e w' ⟨rfl, hb⟩)
    go_ret2
    exact ⟨rfl, hb⟩
  · rw [ho] at cO
    rw [hc, ifI1 _ (by decide)]
    have hN := shown_len_all (okBS_parts ho).2.2
    have cI := fun W => in_any t 0 (((shownL S).length : Int) - 1) W
    rw [hi] at cI
    generalize hM : shownL S = M at *
    have k0 : IntKind.i64.wrap ((M.length : Int) - 1) = (M.length : Int) - 1 := IntWalk.i64_in _ (by omega)
    clear hc hi
    go_enter Try.func34, Try.ntmps34
    go_wp2_with (first | (go_at_call 59; refine cO.mono ?_; rintro e w3 ⟨rfl, hb⟩) | (go_at_call 63; refine (cS _ hb ho).mono ?_; rintro e w4 ⟨v', rfl, hown, hb4⟩; obtain ⟨A', c', rfl⟩ := hown.val) | (go_at_call 65; refine (cI _).mono ?_; rintro e w5 ⟨rfl, rfl⟩))
    go_ret2
    exact ⟨rfl, grown_below hb hb4 hb.size⟩
  · rw [ho] at cO
    rw [hc, ifI0]
    have hN := shown_len_all (okBS_parts ho).2.2
    have cI := fun W => in_any t 0 (((shownL S).length : Int) - 1) W
    rw [hi] at cI
    have hi' := inB_iff.1 hi
    generalize hM : shownL S = M at *
    have k0 : IntKind.i64.wrap ((M.length : Int) - 1) = (M.length : Int) - 1 := IntWalk.i64_in _ (by omega)
    obtain ⟨j, rfl⟩ := Int.eq_ofNat_of_zero_le hi'.1
    have hj : j < M.length := by omega
    clear hc hi hi'
    rw [Int.toNat_natCast]
    obtain ⟨V, hV⟩ : ∃ V, M.getD j 0 = V := ⟨_, rfl⟩
    rw [hV]
    have HV := Lib.hid hV
    clear hV
    go_enter Try.func34, Try.ntmps34
    go_wp2_with (first | (go_at_call 59; refine cO.mono ?_; rintro e w3 ⟨rfl, hb⟩) | (go_at_call 63; refine (cS _ hb ho).mono ?_; rintro e w4 ⟨v', rfl, hown, hb4⟩; obtain ⟨A', c', rfl, _, _, hA'⟩ := hown.sl (by decide); obtain ⟨b2, o2, rfl, hb2, r2⟩ := hA' (by omega); have c0 := int_cell r2 hj; rw [HV.out] at c0; clear hA' r2 hown) | (go_at_call 65; refine (cI _).mono ?_; rintro e w5 ⟨rfl, rfl⟩))
    go_ret2
    exact ⟨rfl, grown_below hb hb4 hb.size⟩
set_option maxHeartbeats 1000000 in
theorem pageAt_any (u : Value) (n : Nat) (S : List (Int × Int)) (t : Nat) (w : World) (ho : okS n S = true) (hn : n ≤ 40) (ht : t < (shownL S).length) (hs : SlAt eSh w w.heap.size u S) :
    Calls Try.prog 66 #[u, .int .i64 t] w fun e w' => e = .returned (.int .i64 ((shownL S).getD t 0)) ∧ Below w.heap.size w w' := by
  obtain ⟨B, d, rfl, h3, h4, hB⟩ := hs
  have h80 := (okS_iff.1 ho).1
  have hall := shown_len_all ho
  unfold maxLen at h4
  go_enter Try.func66, Try.ntmps66
  go_wp2
  go_loopw [1, 5] (fun r i wr => ∃ k p : Nat, k ≤ S.length ∧ i = .int .i64 k ∧ r = .int .i64 p ∧ (shownL (S.take k)).length + p = t ∧ Below w.heap.size w wr) (fun _ i _ => S.length - (intOf i).toNat)
  case atStart => exact ⟨0, t, by omega, rfl, rfl, by simp [shownL], Below.refl _ _⟩
  case round =>
    obtain ⟨k, p, hk, rfl, rfl, hp, hb⟩ := hrel
    have hlt : k < S.length := by
      rcases Nat.lt_or_ge k S.length with h | h
      · exact h
      · rw [List.take_of_length_le h] at hp; omega
    obtain ⟨b1, o1, rfl, hb1, r1⟩ := hB (by omega)
    have g1 := range_below (range_part r1 (sAt_get hlt)) hb hb1
    rw [eSh_n] at g1
    have hh := okS_holds ho hlt
    have hT := congrArg List.length (shown_take hlt)
    have hG := fun h2 => shown_get (t := t) hlt (by omega) h2
    rw [List.length_append, List.length_replicate] at hT
    have c0 := sh_cell0 g1
    have c1 := sh_cell1 g1
    clear hB r1 g1
    generalize hx : (sAt S k).1 = x at *
    obtain ⟨m, hm⟩ : ∃ m : Nat, (sAt S k).2 = m := ⟨(sAt S k).2.toNat, by omega⟩
    rw [hm] at c1 hh
    rw [hm, Int.toNat_natCast] at hG hT
    have k0 : IntKind.i64.wrap (m : Int) = m := IntWalk.i64_in _ (by omega)
    have k1 : IntKind.i64.wrap x = x := IntWalk.i64_in _ (by omega)
    clear hx hm
    by_cases hpm : m ≤ p
    · have k2 : IntKind.i64.wrap ((p : Int) - (m : Int)) = ((p - m : Nat) : Int) := by rw [IntWalk.i64_in _ (by omega)]; omega
      have HT := Lib.hid hT
      have HP := Lib.hid hp
      clear hG hT hp
      go_wp2
      go_roundw
      case rel =>
        go_light
        refine ⟨k + 1, p - m, by omega, by go_num, by first | rfl | rw [k2], ?_, hb⟩
        have := HT.out
        have := HP.out
        omega
      case measure => simp [intOf]; omega
    · have HG := Lib.hid (hG (by omega))
      clear hG hT hp
      go_wp2
      go_ret
      exact ⟨ret_int HG.out.symm, hb⟩
set_option maxHeartbeats 1000000 in
theorem implPageAt_any (v u : Value) (L : List (Nat → Nat)) (S : List (Int × Int)) (t : Int) (w : World) (hL : ltL L) (hS : ltS S) (h : SlAt eFr w w.heap.size v L) (hs : SlAt eSh w w.heap.size u S) :
    Calls Try.prog 35 #[v, u, .int .i64 t] w fun e w' => e = .returned (.tuple #[.int .i64 (paV L S t), .int .i64 (paC L S t)]) ∧ Below w.heap.size w w' := by
  have cO := implValidSheet_any v u L S w hL hS h hs
  have cS := fun (w' : World) (hb : Below w.heap.size w w') (ho : okBS L S = true) => lengthOf_any u L.length S w' (okBS_parts ho).2.2 (okBS_parts ho).2.1 (hs.later hb)
  have cP := fun (w' : World) (hb : Below w.heap.size w w') (ho : okBS L S = true) (j : Nat) (hj : j < (shownL S).length) => pageAt_any u L.length S j w' (okBS_parts ho).2.2 (okBS_parts ho).2.1 hj (hs.later hb)
  obtain ⟨A, c, rfl⟩ := h.form
  obtain ⟨B, d, rfl⟩ := hs.form
  clear h hs
  unfold paV
  rcases paC_cases L S t with ⟨ho, hc⟩ | ⟨ho, hi, hc⟩ | ⟨ho, hi, hc⟩
  · rw [ho] at cO
    rw [hc, ifI1 _ (by decide)]
    clear cS cP ho hc
    go_enter Try.func35, Try.ntmps35
    go_wp2_with (go_at_call 30; refine cO.mono ?_; rintro e w' ⟨rfl, hb⟩)
    go_ret2
    exact ⟨rfl, hb⟩
  · rw [ho] at cO
    rw [hc, ifI1 _ (by decide)]
    have hi' := inB_false.1 hi
    clear cP
    generalize hM : shownL S = M at *
    clear hc hi
    by_cases h0 : t < 0
    · have e0 : decide (t < 0) = true := decide_eq_true h0
      go_enter Try.func35, Try.ntmps35
      go_wp2_with (first | (go_at_call 30; refine cO.mono ?_; rintro e w3 ⟨rfl, hb⟩) | (go_at_call 64; refine (cS _ hb ho).mono ?_; rintro e w4 ⟨rfl, hb4⟩))
      go_ret2
      exact ⟨rfl, hb⟩
    · have e0 : decide (t < 0) = false := decide_eq_false h0
      have h1 : (M.length : Int) ≤ t := by omega
      have e1 : decide ((M.length : Int) ≤ t) = true := decide_eq_true h1
      go_enter Try.func35, Try.ntmps35
      go_wp2_with (first | (go_at_call 30; refine cO.mono ?_; rintro e w3 ⟨rfl, hb⟩) | (go_at_call 64; refine (cS _ hb ho).mono ?_; rintro e w4 ⟨rfl, hb4⟩))
      go_ret2
      exact ⟨rfl, grown_below hb hb4 hb.size⟩
  · rw [ho] at cO
    rw [hc, ifI0]
    have hi' := inB_iff.1 hi
    obtain ⟨j, rfl⟩ := Int.eq_ofNat_of_zero_le hi'.1
    have hj : j < (shownL S).length := by omega
    rw [Int.toNat_natCast]
    replace cP := fun (w' : World) (hb : Below w.heap.size w w') (ho : okBS L S = true) => cP w' hb ho j hj
    generalize hM : shownL S = M at *
    generalize hV : M.getD j 0 = V at *
    clear hV
    have h0 : ¬ (j : Int) < 0 := by omega
    have h1 : ¬ (M.length : Int) ≤ (j : Int) := by omega
    have e0 : decide ((j : Int) < 0) = false := decide_eq_false h0
    have e1 : decide ((M.length : Int) ≤ (j : Int)) = false := decide_eq_false h1
    clear hc hi hi'
    go_enter Try.func35, Try.ntmps35
    go_wp2_with (first | (go_at_call 30; refine cO.mono ?_; rintro e w3 ⟨rfl, hb⟩) | (go_at_call 64; refine (cS _ hb ho).mono ?_; rintro e w4 ⟨rfl, hb4⟩; replace hb := grown_below hb hb4 hb.size; clear hb4) | (go_at_call 66; refine (cP _ hb ho).mono ?_; rintro e w5 ⟨rfl, hb5⟩))
    go_ret2
    exact ⟨rfl, grown_below hb hb5 hb.size⟩
end Go.Proofs.Ythkpefdjhdemeac
