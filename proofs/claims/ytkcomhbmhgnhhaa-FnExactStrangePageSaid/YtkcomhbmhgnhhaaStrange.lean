/- StrangePage: spec and impl. -/
import Derived.Test.YtkcomhbmhgnhhaaRows
import Derived.Test.YtkcomhbmhgnhhaaTbl
import Derived.Test.YtkcomhbmhgnhhaaLeast
import Derived.Test.YtkcomhbmhgnhhaaPages
namespace Go.Proofs.Ytkcomhbmhgnhhaa
set_option maxRecDepth 100000
open Go.RowKit
set_option linter.unusedVariables false
set_option linter.unusedSimpArgs false
/-- How strange a page is. -/
def strg (L : List (Nat → Nat)) (k : Nat) : Int := if k = 0 then tbl L 0 1 else if k = L.length - 1 then tbl L (L.length - 2) (L.length - 1) else tbl L (k - 1) k + tbl L k (k + 1) - tbl L (k - 1) (k + 1)
theorem strg_bounds (L : List (Nat → Nat)) (k : Nat) : -192 ≤ strg L k ∧ strg L k ≤ 384 := by
  have h1 := tbl_bounds L 0 1
  have h2 := tbl_bounds L (L.length - 2) (L.length - 1)
  have h3 := tbl_bounds L (k - 1) k
  have h4 := tbl_bounds L k (k + 1)
  have h5 := tbl_bounds L (k - 1) (k + 1)
  unfold strg
  split
  · omega
  · split <;> omega
set_option maxHeartbeats 1000000 in
theorem specJump_any (v : Value) (L : List (Nat → Nat)) (i k : Nat) (w : World) (hL : ltL L) (ho : okB L = true) (hi : i < L.length) (hk : k < L.length) (h : SlAt eFr w w.heap.size v L) :
    Calls Try.prog 70 #[v, .int .i64 i, .int .i64 k] w fun e w' => e = .returned (.int .i64 (tbl L i k)) ∧ Below w.heap.size w w' := by
  have hok := (okB_iff.1 ho).2
  obtain ⟨A, c, rfl, h1, h2, hA⟩ := h
  obtain ⟨b1, o1, rfl, hb1, r1⟩ := hA (by omega)
  unfold maxLen at h2
  have f1 := range_part r1 (fAt_get hi)
  have f2 := range_part r1 (fAt_get hk)
  have cD := fun w' (hb' : Below w.heap.size w w') => differAt_ok b1 (o1 + i * 12) b1 (o1 + k * 12) _ _ (fAt_lt hL i) (fAt_lt hL k) (hok i hi) (hok k hk) w' (range_below f1 hb' hb1) (Nat.lt_of_lt_of_le hb1 hb'.size) (range_below f2 hb' hb1) (Nat.lt_of_lt_of_le hb1 hb'.size)
  have hv : ((difN (fAt L i) (fAt L k) : Nat) : Int) = tbl L i k := rfl
  have HV := Lib.hid hv
  have CD := Lib.hid cD
  clear hA r1 hv cD f1 f2 hok ho
  go_enter Try.func70, Try.ntmps70
  go_wp2_with fail
  refine wp_region_calm (by kernel_rfl) (by kernel_rfl) ?_
  repeat (quiet_step (exact Calls.regrown_of (CD.out _ (below_regrown _ _ _))))
  refine wpQuiet_nil ?_
  intro w3 hb3
  go_wp2
  go_ret
  exact ⟨ret_int HV.out, hb3⟩
set_option maxHeartbeats 1000000 in
theorem specStrange_any (v : Value) (L : List (Nat → Nat)) (k : Nat) (w : World) (hL : ltL L) (ho : okB L = true) (h2L : 2 ≤ L.length) (hk : k < L.length) (h : SlAt eFr w w.heap.size v L) :
    Calls Try.prog 54 #[v, .int .i64 k] w fun e w' => e = .returned (.int .i64 (strg L k)) ∧ Below w.heap.size w w' := by
  have hlen := okB_len ho
  have cJ := fun (i j : Nat) (hi : i < L.length) (hj : j < L.length) (w' : World) (hb : Below w.heap.size w w') => specJump_any v L i j w' hL ho hi hj (h.later hb)
  obtain ⟨A, c, rfl⟩ := h.form
  clear h
  obtain ⟨n, hn⟩ : ∃ n, L.length = n + 1 := ⟨L.length - 1, by omega⟩
  unfold strg
  have h0 := Below.refl w.heap.size w
  by_cases hk0 : k = 0
  · subst hk0
    rw [if_pos rfl]
    have cJ2 : ∀ w', Below w.heap.size w w' → Calls Try.prog 70 #[.slice A L.length c, .int .i64 0, .int .i64 1] w' fun e w'' => e = .returned (.int .i64 (tbl L 0 1)) ∧ Below w'.heap.size w' w'' := fun w' hb => cJ 0 1 (by omega) (by omega) w' hb
    have CJ := Lib.hid cJ2
    clear cJ cJ2 hn
    go_enter Try.func54, Try.ntmps54
    go_wp2_with (go_at_call 70; refine (CJ.out _ h0).mono ?_; rintro e w1 ⟨rfl, hb1⟩)
    go_ret
    exact ⟨rfl, hb1⟩
  · rw [if_neg hk0]
    have e0 : ((k : Int) == 0) = false := by rw [beq_eq_false_iff_ne]; omega
    by_cases hkl : k = L.length - 1
    · rw [if_pos hkl]
      obtain rfl : k = n := by omega
      obtain ⟨m, rfl⟩ : ∃ m, k = m + 1 := ⟨k - 1, by omega⟩
      rw [show L.length - 2 = m by omega, show L.length - 1 = m + 1 by omega]
      have cJ2 : ∀ w', Below w.heap.size w w' → Calls Try.prog 70 #[.slice A (m + 1 + 1) c, .int .i64 m, .int .i64 ((m + 1 : Nat) : Int)] w' fun e w'' => e = .returned (.int .i64 (tbl L m (m + 1))) ∧ Below w'.heap.size w' w'' := fun w' hb => by have := cJ m (m + 1) (by omega) (by omega) w' hb; rw [hn] at this; exact this
      have CJ := Lib.hid cJ2
      clear cJ2
      have e1 : (((m + 1 : Nat) : Int) == ((m + 1 : Nat) : Int)) = true := by simp
      rw [hn]
      clear cJ hkl hk0 hn
      have kw : IntKind.i64.wrap (((m + 1 : Nat) : Int) - 1) = (m : Int) := by rw [IntWalk.i64_in _ (by omega)]; omega
      go_enter Try.func54, Try.ntmps54
      go_wp2_with fail
      refine (CJ.out _ h0).mono ?_
      rintro e w1 ⟨rfl, hb1⟩
      go_wp2
      go_ret
      exact ⟨rfl, hb1⟩
    · rw [if_neg hkl]
      obtain ⟨m, rfl⟩ : ∃ m, k = m + 1 := ⟨k - 1, by omega⟩
      rw [show m + 1 - 1 = m by omega]
      have e1 : (((m + 1 : Nat) : Int) == (L.length : Int) - 1) = false := by rw [beq_eq_false_iff_ne]; omega
      have C1 := Lib.hid (cJ m (m + 1) (by omega) (by omega))
      have C2 := Lib.hid (cJ (m + 1) (m + 2) (by omega) (by omega))
      have C3 := Lib.hid (cJ m (m + 2) (by omega) (by omega))
      have b1 := tbl_bounds L m (m + 1)
      have b2 := tbl_bounds L (m + 1) (m + 2)
      have b3 := tbl_bounds L m (m + 2)
      rw [show m + 1 + 1 = m + 2 by omega]
      have kw : IntKind.i64.wrap (((m + 1 : Nat) : Int) - 1) = (m : Int) := by rw [IntWalk.i64_in _ (by omega)]; omega
      have kl : IntKind.i64.wrap ((L.length : Int) - 1) = (L.length : Int) - 1 := IntWalk.i64_in _ (by omega)
      have kp : IntKind.i64.wrap (((m + 1 : Nat) : Int) + 1) = ((m + 2 : Nat) : Int) := by rw [IntWalk.i64_in _ (by omega)]; omega
      generalize tbl L m (m + 1) = x at *
      generalize tbl L (m + 1) (m + 2) = y at *
      generalize tbl L m (m + 2) = z at *
      clear cJ hkl hn
      go_enter Try.func54, Try.ntmps54
      go_wp2_with fail
      refine (C1.out _ h0).mono ?_
      rintro e w1 ⟨rfl, hb1⟩
      go_wp2_with fail
      refine (C2.out _ hb1).mono ?_
      rintro e w2 ⟨rfl, hb2⟩
      have hb3 := grown_below hb1 hb2 hb1.size
      go_wp2_with fail
      refine (C3.out _ hb3).mono ?_
      rintro e w3 ⟨rfl, hb4⟩
      have hb5 := grown_below hb3 hb4 hb3.size
      go_wp2
      go_ret
      exact ⟨rfl, hb5⟩
/-- The first strangest one of the first k + 1 pages. -/
def bst (L : List (Nat → Nat)) (k : Nat) : Nat := (lst (fun x => - strg L x) (List.range (k + 1))).getD 0
theorem bst_some (L : List (Nat → Nat)) (k : Nat) : lst (fun x => - strg L x) (List.range (k + 1)) = some (bst L k) ∧ bst L k ≤ k := by
  obtain ⟨y, hy, hm⟩ := lst_some (v := fun x => - strg L x) (l := List.range (k + 1)) (by simp)
  have : bst L k = y := by unfold bst; rw [hy]; rfl
  rw [this]
  exact ⟨hy, by have := List.mem_range.1 hm; omega⟩
theorem bst_zero (L : List (Nat → Nat)) : bst L 0 = 0 := by have := (bst_some L 0).2; omega
theorem bst_succ (L : List (Nat → Nat)) (k : Nat) : bst L (k + 1) = if strg L (bst L k) < strg L (k + 1) then k + 1 else bst L k := by
  have h1 := (bst_some L k).1
  have h2 := (bst_some L (k + 1)).1
  rw [List.range_succ, lst_snoc, h1, lstS_neg] at h2
  dsimp only at h2
  split at h2
  · rename_i h; rw [if_pos h]; injection h2 with e; exact e.symm
  · rename_i h; rw [if_neg h]; injection h2 with e; exact e.symm
def stpC (L : List (Nat → Nat)) : Int := if okB L then (if L.length < 2 then 6 else 0) else 1
theorem stpC_cases (L : List (Nat → Nat)) : (okB L = false ∧ stpC L = 1) ∨ (okB L = true ∧ L.length < 2 ∧ stpC L = 6) ∨ (okB L = true ∧ 2 ≤ L.length ∧ stpC L = 0) := by
  unfold stpC
  cases okB L
  · simp
  · by_cases h : L.length < 2
    · simp [h]
    · simp [h]; omega
set_option maxHeartbeats 2000000 in
theorem specStrangePage_any (v : Value) (L : List (Nat → Nat)) (w : World) (hL : ltL L) (h : SlAt eFr w w.heap.size v L) :
    Calls Try.prog 18 #[v] w fun e w' => e = .returned (.tuple #[.int .i64 (ifI (stpC L) (bst L (L.length - 1))), .int .i64 (ifI (stpC L) (strg L (bst L (L.length - 1)))), .int .i64 (stpC L)]) ∧ Below w.heap.size w w' := by
  have cO := specOk_any v L w h
  rcases stpC_cases L with ⟨ho, hc⟩ | ⟨ho, hn, hc⟩ | ⟨ho, hn, hc⟩
  · obtain ⟨A, c, rfl⟩ := h.form
    rw [ho] at cO
    rw [hc, ifI1 _ (by decide), ifI1 _ (by decide)]
    clear ho hc h
    go_enter Try.func18, Try.ntmps18
    go_wp2_with (go_at_call 53; refine cO.mono ?_; rintro e w' ⟨rfl, rfl⟩)
    go_ret3
    exact ⟨rfl, Below.refl _ _⟩
  · obtain ⟨A, c, rfl⟩ := h.form
    rw [ho] at cO
    rw [hc, ifI1 _ (by decide), ifI1 _ (by decide)]
    clear ho hc h
    go_enter Try.func18, Try.ntmps18
    go_wp2_with (go_at_call 53; refine cO.mono ?_; rintro e w' ⟨rfl, rfl⟩)
    go_ret3
    exact ⟨rfl, Below.refl _ _⟩
  · have hlen := okB_len ho
    have cS := fun (k : Nat) (hk : k < L.length) (w' : World) (hb : Below w.heap.size w w') => specStrange_any v L k w' hL ho hn hk (h.later hb)
    obtain ⟨A, c, rfl⟩ := h.form
    rw [ho] at cO
    rw [hc, ifI0, ifI0]
    have CS := Lib.hid cS
    have h0 := Below.refl w.heap.size w
    have hb0 := bst_zero L
    clear ho hc h cS
    go_enter Try.func18, Try.ntmps18
    go_wp2_with (go_at_call 53; refine cO.mono ?_; rintro e w' ⟨rfl, rfl⟩)
    go_loopw [5, 6] (fun a i wr => ∃ k : Nat, k + 1 ≤ L.length ∧ i = .int .i64 ((k + 1 : Nat) : Int) ∧ a = .int .i64 (bst L k : Nat) ∧ Below w.heap.size w wr) (fun _ i _ => L.length - (intOf i).toNat)
    case atStart => exact ⟨0, by omega, rfl, by rw [hb0]; rfl, h0⟩
    case round =>
      clear h0 hb0
      obtain ⟨k, hk, rfl, rfl, hb⟩ := hrel
      have hle := (bst_some L k).2
      by_cases hlt : k + 1 < L.length
      · have C1 := Lib.hid (CS.out (k + 1) hlt)
        have C2 := Lib.hid (CS.out (bst L k) (by omega))
        have HST := Lib.hid (bst_succ L k)
        have d0 : ((k : Int) + 1 < (L.length : Int)) := by omega
        have B1 := strg_bounds L (k + 1)
        have B2 := strg_bounds L (bst L k)
        generalize strg L (k + 1) = x at *
        generalize strg L (bst L k) = y at *
        generalize bst L k = p at *
        clear B1 B2
        go_wp2_with fail
        refine (C1.out _ hb).mono ?_
        rintro e w1 ⟨rfl, hb1⟩
        replace hb := grown_below hb hb1 hb.size
        go_wp2_with fail
        refine (C2.out _ hb).mono ?_
        rintro e w2 ⟨rfl, hb2⟩
        replace hb := grown_below hb hb2 hb.size
        clear hb1 hb2 C1 C2
        by_cases hxy : y < x
        · have hd : decide (y < x) = true := decide_eq_true hxy
          go_wp2
          go_roundw
          case rel =>
            go_light
            exact ⟨k + 1, by omega, by go_num, by rw [HST.out, if_pos hxy] <;> go_num, hb⟩
          case measure => simp [intOf]; omega
        · have hd : decide (y < x) = false := decide_eq_false hxy
          go_wp2
          go_roundw
          case rel =>
            go_light
            exact ⟨k + 1, by omega, by go_num, by rw [HST.out, if_neg (by omega)], hb⟩
          case measure => simp [intOf]; omega
      · have hkl : L.length - 1 = k := by omega
        have C2 := Lib.hid (CS.out (bst L k) (by omega))
        have HF : Hid (strg L (bst L (L.length - 1)) = strg L (bst L k) ∧ bst L (L.length - 1) = bst L k) := by rw [hkl]; exact ⟨rfl, rfl⟩
        clear hkl
        generalize strg L (bst L k) = y at *
        generalize bst L k = p at *
        have d0 : ¬ ((k : Int) + 1 < (L.length : Int)) := by omega
        go_wp2_with fail
        refine (C2.out _ hb).mono ?_
        rintro e w2 ⟨rfl, hb2⟩
        replace hb := grown_below hb hb2 hb.size
        go_wp2
        go_ret3
        exact ⟨by rw [HF.out.1, HF.out.2]; rfl, hb⟩
set_option maxHeartbeats 2000000 in
theorem strangeness_any (v : Value) (L : List (Nat → Nat)) (k : Nat) (w : World) (h2L : 2 ≤ L.length) (hlen : L.length ≤ 40) (hk : k < L.length) (h : SlSl w w.heap.size v (tblL L)) :
    Calls Try.prog 62 #[v, .int .i64 k] w fun e w' => e = .returned (.int .i64 (strg L k)) ∧ Below w.heap.size w w' := by
  have hl0 : (tblL L).length = L.length := tab_length _ _
  obtain ⟨b, o, c, rfl, h1, h2, hb, hrow⟩ := h.base (by omega)
  rw [hl0] at h1 ⊢
  unfold maxLen at h2
  have hcell : ∀ i j, i < L.length → j < L.length → ∃ b' o' c', w.cell? ⟨b, o + i, none⟩ = some (.slice (some ⟨b', o', none⟩) L.length c') ∧ L.length ≤ c' ∧ c' ≤ 1000000000000000000000 ∧ w.cell? ⟨b', o' + j, none⟩ = some (.int .i64 (tbl L i j)) := by
    intro i j hi hj
    obtain ⟨b', o', c', hc, q1, q2, _, hr⟩ := hrow i (tblR L i) (tblL_get hi) (by rw [tblR_len]; omega)
    have := int_cell hr (i := j) (by rw [tblR_len]; exact hj)
    rw [tblR_get hj] at this
    rw [tblR_len] at hc q1
    unfold maxLen at q2
    exact ⟨b', o', c', hc, q1, by omega, this⟩
  clear hrow h hl0
  have h0 := Below.refl w.heap.size w
  have kl : IntKind.i64.wrap ((L.length : Int) - 1) = (L.length : Int) - 1 := IntWalk.i64_in _ (by omega)
  unfold strg
  by_cases hk0 : k = 0
  · subst hk0
    rw [if_pos rfl]
    obtain ⟨b', o', c', hc, q1, q2, q3⟩ := hcell 0 1 (by omega) (by omega)
    rw [Nat.add_zero] at hc
    generalize tbl L 0 1 = x at *
    clear hcell
    go_enter Try.func62, Try.ntmps62
    go_wp2
    go_ret
    exact ⟨rfl, h0⟩
  · rw [if_neg hk0]
    have e0 : ((k : Int) == 0) = false := by rw [beq_eq_false_iff_ne]; omega
    by_cases hkl : k = L.length - 1
    · rw [if_pos hkl]
      obtain ⟨m, rfl⟩ : ∃ m, k = m + 1 := ⟨k - 1, by omega⟩
      rw [show L.length - 2 = m by omega, ← hkl]
      obtain ⟨b', o', c', hc, q1, q2, q3⟩ := hcell m (m + 1) (by omega) (by omega)
      generalize tbl L m (m + 1) = x at *
      generalize L.length = N at *
      obtain rfl : N = m + 2 := by omega
      clear hcell hkl hk0
      go_enter Try.func62, Try.ntmps62
      go_wp2
      go_ret
      exact ⟨rfl, h0⟩
    · rw [if_neg hkl]
      obtain ⟨m, rfl⟩ : ∃ m, k = m + 1 := ⟨k - 1, by omega⟩
      rw [show m + 1 - 1 = m by omega, show m + 1 + 1 = m + 2 by omega]
      obtain ⟨b1, o1, c1, p1, p2, p3, p4⟩ := hcell m (m + 1) (by omega) (by omega)
      obtain ⟨b2, o2, c2, q1, q2, q3, q4⟩ := hcell (m + 1) (m + 2) (by omega) (by omega)
      obtain ⟨b3, o3, c3, r1, r2, r3, r4⟩ := hcell m (m + 2) (by omega) (by omega)
      rw [p1] at r1
      cases r1
      have B1 := tbl_bounds L m (m + 1)
      have B2 := tbl_bounds L (m + 1) (m + 2)
      have B3 := tbl_bounds L m (m + 2)
      generalize tbl L m (m + 1) = x at *
      generalize tbl L (m + 1) (m + 2) = y at *
      generalize tbl L m (m + 2) = z at *
      have e1 : (((m + 1 : Nat) : Int) == (L.length : Int) - 1) = false := by rw [beq_eq_false_iff_ne]; omega
      have e2 : ((m : Int) + 1 == (L.length : Int) - 1) = false := by rw [beq_eq_false_iff_ne]; omega
      have l1 : m < L.length := by omega
      have l2 : m + 1 < L.length := by omega
      have l3 : m + 2 < L.length := by omega
      have kw : IntKind.i64.wrap ((m : Int) + 1 - 1) = (m : Int) := by rw [IntWalk.i64_in _ (by omega)]; omega
      have kp : IntKind.i64.wrap ((m : Int) + 1 + 1) = ((m + 2 : Nat) : Int) := by rw [IntWalk.i64_in _ (by omega)]; omega
      have ks : IntKind.i64.wrap (x + y) = x + y := IntWalk.i64_in _ (by omega)
      have kd : IntKind.i64.wrap (x + y - z) = x + y - z := IntWalk.i64_in _ (by omega)
      have kn : (m : Int).toNat = m := by omega
      have kn1 : ((m : Int) + 1).toNat = m + 1 := by omega
      have kn2 : ((m + 2 : Nat) : Int).toNat = m + 2 := by omega
      clear hcell hkl hk0
      go_enter Try.func62, Try.ntmps62
      go_wp2
      go_quiet (fail)
      go_wp2
      go_ret
      exact ⟨rfl, below_drewN h0 nq⟩
theorem boxed_store {w : World} (t : TypeId) (v0 v : Value) : Boxed ((w.alloc (.cells #[v0] t)).setCell ⟨w.heap.size, 0, none⟩ v) w.heap.size t v := (Boxed.new w t v0).set v
theorem strange1_any (v : Value) (L : List (Nat → Nat)) (k g1 : Nat) (w : World) (h2L : 2 ≤ L.length) (hlen : L.length ≤ 40) (hk : k < L.length) (h : SlSl w w.heap.size v (tblL L)) (x1 : Boxed w g1 78 v) :
    Calls Try.prog 61 #[.int .i64 k, .pointer (some ⟨g1, 0, none⟩)] w fun e w' => e = .returned (.int .i64 (- strg L k)) ∧ Below w.heap.size w w' := by
  have cS := strangeness_any v L k w h2L hlen hk h
  obtain ⟨A, c, rfl⟩ := h.form
  have c1 := x1.cell
  have B := strg_bounds L k
  generalize strg L k = s at *
  have ks : IntKind.i64.wrap (-s) = -s := IntWalk.i64_in _ (by omega)
  clear h x1
  go_enter Try.func61, Try.ntmps61
  go_wp2_with (go_at_call 62; refine cS.mono ?_; rintro e w1 ⟨rfl, hb1⟩)
  go_ret
  exact ⟨rfl, hb1⟩
theorem pg_mem {n : Nat} {x : Int} (h : x ∈ pgI n) : ∃ i : Nat, i < n ∧ x = (i : Int) := by
  obtain ⟨i, hi, rfl⟩ := List.mem_map.1 h
  exact ⟨i, List.mem_range.1 hi, rfl⟩
theorem lst_pg (V : Int → Int) (u : Nat → Int) (n : Nat) (h : ∀ i, i < n → V (i : Int) = u i) : lst V (pgI n) = (lst u (List.range n)).map (fun i : Nat => (i : Int)) := by
  unfold pgI tab
  rw [lst_map, lst_congr (v := fun b : Nat => V (b : Int)) (u := u) (fun x hx => h x (List.mem_range.1 hx))]
set_option maxHeartbeats 2000000 in
theorem implStrangePage_any (v : Value) (L : List (Nat → Nat)) (w : World) (hL : ltL L) (h : SlAt eFr w w.heap.size v L) :
    Calls Try.prog 20 #[v] w fun e w' => e = .returned (.tuple #[.int .i64 (ifI (stpC L) (bst L (L.length - 1))), .int .i64 (ifI (stpC L) (strg L (bst L (L.length - 1)))), .int .i64 (stpC L)]) ∧ Below w.heap.size w w' := by
  have cV := implValidBook_any v L w hL h
  rcases stpC_cases L with ⟨ho, hc⟩ | ⟨ho, hn, hc⟩ | ⟨ho, hn, hc⟩
  · obtain ⟨A, c, rfl⟩ := h.form
    rw [ho] at cV
    rw [hc, ifI1 _ (by decide), ifI1 _ (by decide)]
    clear ho hc h
    go_enter Try.func20, Try.ntmps20
    go_wp2_with (go_at_call 56; refine cV.mono ?_; rintro e w1 ⟨rfl, hb1⟩)
    go_ret3
    exact ⟨rfl, hb1⟩
  · obtain ⟨A, c, rfl⟩ := h.form
    rw [ho] at cV
    rw [hc, ifI1 _ (by decide), ifI1 _ (by decide)]
    clear ho hc h
    go_enter Try.func20, Try.ntmps20
    go_wp2_with (go_at_call 56; refine cV.mono ?_; rintro e w1 ⟨rfl, hb1⟩)
    go_ret3
    exact ⟨rfl, hb1⟩
  · have hlen := okB_len ho
    have cT := fun (w' : World) (hb : Below w.heap.size w w') => jumpTable_any v L w' hL hlen (h.later hb)
    obtain ⟨A, c, rfl⟩ := h.form
    rw [ho] at cV
    rw [hc, ifI0, ifI0]
    have CT := Lib.hid cT
    have hb1 := (bst_some L (L.length - 1))
    have hls := lst_pg (fun z => - strg L z.toNat) (fun i => - strg L i) L.length (fun i _ => by simp)
    rw [show List.range L.length = List.range (L.length - 1 + 1) by congr 1; omega, hb1.1] at hls
    have hX : lsX (fun z => - strg L z.toNat) (pgI L.length) = (bst L (L.length - 1) : Int) := by unfold lsX; rw [hls]; rfl
    have hV : lsV (fun z => - strg L z.toNat) (pgI L.length) = - strg L (bst L (L.length - 1)) := by unfold lsV; rw [hls]; simp
    have HX := Lib.hid hX
    have HV := Lib.hid hV
    have B := strg_bounds L (bst L (L.length - 1))
    clear ho hc h cT hb1 hls hX hV
    go_enter Try.func20, Try.ntmps20
    go_wp2_with (first | (go_at_call 56; refine cV.mono ?_; rintro e w1 ⟨rfl, hb1⟩) | (go_at_call 57; refine (CT.out _ hb1).mono ?_; rintro e w2 ⟨u, rfl, hs2, hb2⟩; obtain ⟨A2, c2, rfl⟩ := hs2.form))
    have bT := Boxed.new w2 78 (.slice A2 (tblL L).length c2)
    have hb12 := grown_below hb1 hb2 hb1.size
    have hbA := (Below.refl w2.heap.size w2).alloc (Nat.le_refl _) (.cells #[.slice A2 (tblL L).length c2] 78)
    have hs3 := hs2.later hbA
    have hb3 := grown_below hb12 hbA hb12.size
    obtain ⟨g1, hg1⟩ : ∃ g1, w2.heap.size = g1 := ⟨_, rfl⟩
    rw [hg1] at bT ⊢
    clear hs2 hbA hb12 hg1
    generalize w2.alloc _ = w3 at *
    have cP := pages_any A L.length c w3 (by omega)
    refine cP.mono ?_
    rintro e w4 ⟨p, rfl, hp, hb4⟩
    obtain ⟨A5, c5, rfl⟩ := hp.val
    have bT4 := boxIn hb4 bT
    have hs4 := hs3.later hb4
    have hb5 := grown_below hb3 hb4 hb3.size
    have hpS := hp.sl (by decide)
    clear hs3 bT hb3 hp
    go_wp2_with (go_at_call 59; refine (valuesI_any _ _ _ _).mono ?_; rintro e w' ⟨rfl, rfl⟩)
    have hbB := (Below.refl w4.heap.size w4).alloc (Nat.le_refl _) (.cells #[.slice A5 (pgI L.length).length c5] 47)
    have bS := Boxed.new w4 47 (.slice A5 (pgI L.length).length c5)
    have bT5 := boxIn hbB bT4
    have hs5 := hs4.later hbB
    have hp5 := hpS.later hbB
    have hb6 := grown_below hb5 hbB hb5.size
    have lS := bS.lt
    obtain ⟨g2, hg2⟩ : ∃ g2, w4.heap.size = g2 := ⟨_, rfl⟩
    rw [hg2] at bS lS ⊢
    clear hbB bT4 hs4 hpS hb5 hg2
    generalize w4.alloc _ = w5 at *
    have cL := leastI_any 116 #[.pointer (some ⟨g2, 0, none⟩)] (enters_of Try.func116 (by kernel_rfl) rfl) intEnc (fun x => rfl) (pgI L.length) (by rw [pgI_len]; omega) 61 #[.pointer (some ⟨g1, 0, none⟩)] (fun z => - strg L z.toNat) w5 (fun x w => by kernel_rfl)
      (fun x hx w1 hb => by
        obtain ⟨i, hi, rfl⟩ := pg_mem hx
        exact strange1_any _ L i g1 w1 hn hlen hi (hs5.later hb) (boxIn hb bT5))
      (fun w1 hb => valuesI_stops 3 (by omega) g2 _ A5 c5 (pgI L.length) w1 lS (boxIn hb bS) hb.size (by rw [pgI_len]; omega) (hp5.keep fun b hlt => hb.block b hlt))
    refine cL.mono ?_
    rintro e w6 ⟨rfl, hb7⟩
    obtain ⟨s, HS⟩ : ∃ s, Hid (strg L (bst L (L.length - 1)) = s) := ⟨_, Lib.hid rfl⟩
    obtain ⟨p, HP⟩ : ∃ p, Hid (bst L (L.length - 1) = p) := ⟨_, Lib.hid rfl⟩
    rw [HX.out, HV.out, HS.out, HP.out]
    rw [HS.out] at B
    have hb8 := grown_below hb6 hb7 hb6.size
    have ks : IntKind.i64.wrap (- -s) = s := by rw [Int.neg_neg]; exact IntWalk.i64_in _ (by omega)
    go_wp2
    go_ret3
    exact ⟨by simp; exact ⟨by rw [HP.out], by rw [HS.out]⟩, hb8⟩
end Go.Proofs.Ytkcomhbmhgnhhaa
