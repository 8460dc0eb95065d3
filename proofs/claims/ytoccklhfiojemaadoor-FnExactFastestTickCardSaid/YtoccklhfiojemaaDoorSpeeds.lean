/- SPEEDS. spec: l03Speeds, SpeedsOf; impl: wayTo, speeds, SpeedsOf. -/
import Derived.Test.YtoccklhfiojemaaDoorAsked
import Derived.Test.YtoccklhfiojemaaDoorIPlaceAt
import Derived.Test.YtoccklhfiojemaaDoorTicksT
import Derived.Test.YtoccklhfiojemaaDoorLI64
import Derived.Test.YtoccklhfiojemaaDoorApp
namespace Go.Proofs.YtoccklhfiojemaaDoor
set_option maxRecDepth 100000
open Go.RowKit
set_option linter.unusedVariables false
set_option linter.unusedSimpArgs false
theorem infoI64K : (Tryd.prog.info? 2).map (fun i => (i.zero, i.size, i.bytes)) = some (some (.int .i64 0), (eI .i64).n, 8) := by kernel_rfl
/-- The speed of the tick behind b. -/
def spd (L : List (Int × Int × Int)) (e b : Int) : Int := szI ((plK L e (b + 1)).2.1 - (plK L e b).2.1) + szI ((plK L e (b + 1)).2.2 - (plK L e b).2.2)
def spN (L : List (Int × Int × Int)) : Nat := ((kAt L (L.length - 1)).1 - (kAt L 0).1).toNat
def spL (L : List (Int × Int × Int)) (e : Int) : List Int := tab (fun i => spd L e ((kAt L 0).1 + (i : Int))) (spN L)
theorem spN_le {L : List (Int × Int × Int)} (ho : okT L = true) : (kAt L 0).1 ≤ (kAt L (L.length - 1)).1 ∧ ((spN L : Nat) : Int) = (kAt L (L.length - 1)).1 - (kAt L 0).1 ∧ spN L ≤ 200 := by
  have hl := (okT_iff.1 ho).1
  have k0 := (okT_key ho (i := 0) (by omega)).1
  have k1 := (okT_key ho (i := L.length - 1) (by omega)).1
  have hle : (kAt L 0).1 ≤ (kAt L (L.length - 1)).1 := by
    by_cases h : L.length - 1 = 0
    · rw [h]; exact Int.le_refl _
    · have := okT_lt ho (i := 0) (j := L.length - 1) (by omega) (by omega); omega
  unfold spN
  refine ⟨hle, by omega, by omega⟩
theorem sp_if_len (L : List (Int × Int × Int)) (e : Int) : (ifL (wyC L e true) (spL L e)).length ≤ 1000 := by
  by_cases hc : wyC L e true = 0
  · have ho : okT L = true := by
      rcases wyC_cases L e true with ⟨_, h⟩ | ⟨h, _⟩ | ⟨h, _⟩ | ⟨h, _⟩
      · omega
      · exact h
      · exact h
      · exact h
    rw [hc, ifL0, spL, tab_length]
    have := (spN_le ho).2.2
    omega
  · rw [ifL1 _ hc]; simp
theorem szd_in {x a : Int} (hx : -24 ≤ x ∧ x ≤ 24) (ha : -24 ≤ a ∧ a ≤ 24) : 0 ≤ szI (x - a) ∧ szI (x - a) ≤ 48 := ⟨szI_nonneg _, szI_le (by omega) (by omega)⟩
set_option maxHeartbeats 4000000 in
theorem specSpeeds_any (v : Value) (L : List (Int × Int × Int)) (ea : Int) (w : World) (ho : okT L = true) (he : 0 ≤ ea ∧ ea ≤ 3) (h : SlAt eKy w w.heap.size v L) :
    Calls Tryd.prog 43 #[v, .int .i64 ea] w (GivesV (eI .i64) 2 (spL L ea) w) := by
  have hcl := fun (w' : World) (hb : Below w.heap.size w w') => h.later hb
  have hp := fun t => plK_in ho ea t
  have hn := spN_le ho
  obtain ⟨A, c, rfl, h1, h2, hA⟩ := h
  unfold maxLen at h2
  have hlen := (okT_iff.1 ho).1
  obtain ⟨b1, o1, rfl, hb1, r1⟩ := hA (by omega)
  obtain ⟨m, hm⟩ : ∃ m, L.length = m + 1 := ⟨L.length - 1, by omega⟩
  have g0 := range_part r1 (kAt_get (i := 0) (by omega))
  have g1 := range_part r1 (kAt_get (i := m) (by omega))
  rw [eKy_n] at g0 g1
  rw [Nat.zero_mul, Nat.add_zero] at g0
  have c0 := ky_cell0 g0
  have c1 := ky_cell0 g1
  have q0 := (okT_key ho (i := 0) (by omega)).1
  have q1 := (okT_key ho (i := m) (by omega)).1
  have hm1 : m ≤ 20 := by omega
  have hu : spL L ea = tab (fun i => spd L ea ((kAt L 0).1 + (i : Int))) (spN L) := rfl
  have hS := fun i => tab_succ (fun i : Nat => spd L ea ((kAt L 0).1 + (i : Int))) i
  rw [hu]
  clear hu
  have hd : (fun i : Nat => spd L ea ((kAt L 0).1 + (i : Int))) = fun i : Nat => spd L ea ((kAt L 0).1 + (i : Int)) := rfl
  rw [show L.length - 1 = m by omega] at hn
  have cP := fun (t : Int) (ht : 0 ≤ t ∧ t ≤ 200) (w' : World) (hb : Below w.heap.size w w') => specPlace_any _ L ea t w' ho he ht (hcl w' hb)
  have CP := Lib.hid cP
  have HP := Lib.hid hp
  have HS := Lib.hid hS
  rw [hm] at CP ⊢
  clear hcl hA h1 h2 r1 g0 g1 hlen cP hp hS hd
  have hn1 := hn.1
  have hn2 := hn.2.1
  have hn3 := hn.2.2
  clear hn
  generalize hN : spN L = N at *
  generalize hs : (kAt L 0).1 = s at *
  generalize (kAt L m).1 = z at *
  have ks : IntKind.i64.wrap s = s := IntWalk.i64_in _ (by omega)
  have kz : IntKind.i64.wrap z = z := IntWalk.i64_in _ (by omega)
  have h0 := Below.refl w.heap.size w
  have hown := OwnL.made (E := eI .i64) w w.heap.size 2 (Nat.le_refl _)
  replace h0 := h0.alloc h0.size (.cells #[] 2)
  go_enter Tryd.func43, Tryd.ntmps43
  go_wp2
  go_loopw [5, 6] (fun u i wr => ∃ k : Nat, k ≤ N ∧ i = .int .i64 (s + 1 + (k : Int)) ∧ OwnL (eI .i64) wr w.heap.size 2 u (tab (fun i : Nat => spd L ea (s + (i : Int))) k) ∧ Below w.heap.size w wr) (fun _ i _ => (z + 1 - intOf i).toNat)
  case atStart => exact ⟨0, by omega, by simp, by simpa [tab_zero] using hown, h0⟩
  case round =>
    clear hown h0
    obtain ⟨k, hk, rfl, hown, hb⟩ := hrel
    have d0 := (World.cell?_of_block (w := w) (a := ⟨b1, o1, none⟩) (hb.block _ hb1)).trans c0
    have d1 := (World.cell?_of_block (w := w) (a := ⟨b1, o1 + m * 3, none⟩) (hb.block _ hb1)).trans c1
    by_cases hlt : s + 1 + (k : Int) ≤ z
    · have e1 : decide (s + 1 + (k : Int) ≤ z) = true := decide_eq_true hlt
      have kt : IntKind.i64.wrap (s + 1 + (k : Int) - 1) = s + (k : Int) := by rw [IntWalk.i64_in _ (by omega)]; omega
      have p1 := HP.out (s + (k : Int) + 1)
      have p2 := HP.out (s + (k : Int))
      have hv : spd L ea (s + (k : Int)) = szI ((plK L ea (s + (k : Int) + 1)).2.1 - (plK L ea (s + (k : Int))).2.1) + szI ((plK L ea (s + (k : Int) + 1)).2.2 - (plK L ea (s + (k : Int))).2.2) := rfl
      have C1 := Lib.hid (CP.out (s + (k : Int) + 1) (by omega))
      have C2 := Lib.hid (CP.out (s + (k : Int)) (by omega))
      generalize (plK L ea (s + (k : Int) + 1)).2.1 = x at *
      generalize (plK L ea (s + (k : Int) + 1)).2.2 = y at *
      generalize (plK L ea (s + (k : Int))).2.1 = a at *
      generalize (plK L ea (s + (k : Int))).2.2 = b at *
      have kx : IntKind.i64.wrap (x - a) = x - a := IntWalk.i64_in _ (by omega)
      have ky : IntKind.i64.wrap (y - b) = y - b := IntWalk.i64_in _ (by omega)
      have cX := fun w => specSize_any (x - a) w ⟨by omega, by omega⟩
      have cY := fun w => specSize_any (y - b) w ⟨by omega, by omega⟩
      have bx := szd_in p1.1 p2.1
      have by' := szd_in p1.2 p2.2
      have bx1 := bx.1
      have bx2 := bx.2
      have by1 := by'.1
      have by2 := by'.2
      generalize szI (x - a) = sx at *
      generalize szI (y - b) = sy at *
      have HV := Lib.hid hv
      have hk20 : k ≤ 200 := by omega
      rw [show s + (k : Int) + 1 = s + 1 + (k : Int) by omega] at C1
      clear hv p1 p2 bx by'
      go_wp2_with (first | (go_at_call 35; first | (refine (C1.out _ hb).mono ?_; rintro r w2 ⟨rfl, hb2⟩; replace hown := hown.below hb2; replace hb := grown_below hb hb2 hb.size; clear hb2 C1) | (refine (C2.out _ hb).mono ?_; rintro r w3 ⟨rfl, hb2⟩; replace hown := hown.below hb2; replace hb := grown_below hb hb2 hb.size; clear hb2 C2)) | (go_at_call 69; first | (refine (cX _).mono ?_; rintro r w' ⟨rfl, rfl⟩; clear cX) | (refine (cY _).mono ?_; rintro r w' ⟨rfl, rfl⟩; clear cY)) | (at_builtin; refine wpList_append_one rfl _ _ 31 rfl w.heap.size 2 Tryd.underlying31 infoI64K rfl (by decide) (by omega) (hown.alloc _) rfl (sx + sy) rfl (range_new _ _ _) (by rw [tab_length]; omega) (by have := hb.size; simp; omega) ?_; intro v' w4 hown' hgrow))
      go_roundw
      case rel =>
        go_light
        refine ⟨k + 1, by omega, by first | go_num | (rw [show s + 1 + ((k + 1 : Nat) : Int) = s + 1 + (k : Int) + 1 by omega]), ?_, (hown.alloc _).grown_below (hb.alloc hb.size _) hgrow (Nat.le_refl _) (by have := hb.size; simp; omega)⟩
        rw [HS.out, HV.out]; exact hown'
      case measure => simp [intOf]; omega
    · have hkn : k = N := by omega
      subst hkn
      have e1 : decide (s + 1 + (k : Int) ≤ z) = false := decide_eq_false hlt
      go_wp2
      go_ret
      exact ⟨_, rfl, hown, hb⟩
theorem specSpeedsOf_any (v : Value) (L : List (Int × Int × Int)) (ea : Int) (w : World) (hL : ltK L) (h : SlAt eKy w w.heap.size v L) :
    Calls Tryd.prog 15 #[v, .int .i64 ea] w (GivesL (eI .i64) 2 (ifL (wyC L ea true) (spL L ea)) (wyC L ea true) w) := by
  have cA := specAsked_any v L ea true w hL h
  have cP := fun w' (hb : Below w.heap.size w w') ho he => specSpeeds_any v L ea w' ho he (h.later hb)
  obtain ⟨A, c, rfl⟩ := h.form
  clear h
  by_cases hc : wyC L ea true = 0
  · have h3 : okT L = true ∧ inB ea 0 3 = true := by
      rcases wyC_cases L ea true with ⟨h1, hc'⟩ | ⟨h1, h2, hc'⟩ | ⟨h1, h2, h3, hc'⟩ | ⟨h1, h2, h3, hc'⟩
      · omega
      · omega
      · omega
      · exact ⟨h1, h2⟩
    rw [hc] at cA ⊢
    rw [ifL0]
    have HP := Lib.hid (fun w' hb => cP w' hb h3.1 (inB_iff.1 h3.2))
    clear cP hc h3
    generalize spL L ea = M at *
    go_enter Tryd.func15, Tryd.ntmps15
    go_wp2_with (first | (go_at_call 33; refine cA.mono ?_; rintro r w1 ⟨rfl, hb⟩; clear cA) | (go_at_call 43; refine (HP.out _ hb).mono ?_; rintro r w2 ⟨u, rfl, hown, hb2⟩))
    go_ret2
    exact ⟨_, rfl, hown.mono hb.size, grown_below hb hb2 hb.size⟩
  · rw [ifL1 _ hc]
    have hne : ((wyC L ea true) != 0) = true := by simp [hc]
    clear cP
    generalize wyC L ea true = c0 at *
    clear hc
    go_enter Tryd.func15, Tryd.ntmps15
    go_wp2_with (first | (go_at_call 33; refine cA.mono ?_; rintro r w1 ⟨rfl, hb⟩; clear cA))
    go_ret2
    exact ⟨_, rfl, OwnL.made _ w.heap.size 2 hb.size, hb.alloc hb.size _⟩
set_option maxHeartbeats 2000000 in
theorem wayTo_any (p q : Int × Int × Int) (w : World) (hp : (-24 ≤ p.2.1 ∧ p.2.1 ≤ 24) ∧ -24 ≤ p.2.2 ∧ p.2.2 ≤ 24) (hq : (-24 ≤ q.2.1 ∧ q.2.1 ≤ 24) ∧ -24 ≤ q.2.2 ∧ q.2.2 ≤ 24) :
    Calls Tryd.prog 73 #[.agg (KC p), .agg (KC q)] w fun r w' => r = .returned (.int .i64 (szI (q.2.1 - p.2.1) + szI (q.2.2 - p.2.2))) ∧ Below w.heap.size w w' := by
  obtain ⟨t, a, b⟩ := p
  obtain ⟨u, x, y⟩ := q
  dsimp only at hp hq ⊢
  have bx := szd_in hq.1 hp.1
  have by' := szd_in hq.2 hp.2
  have cX := fun w => to_below (sizeOf_any (x - a) w ⟨by omega, by omega⟩)
  have cY := fun w => to_below (sizeOf_any (y - b) w ⟨by omega, by omega⟩)
  have k1 : IntKind.i64.wrap x = x := IntWalk.i64_in _ (by omega)
  have k2 : IntKind.i64.wrap a = a := IntWalk.i64_in _ (by omega)
  have k3 : IntKind.i64.wrap y = y := IntWalk.i64_in _ (by omega)
  have k4 : IntKind.i64.wrap b = b := IntWalk.i64_in _ (by omega)
  have k5 : IntKind.i64.wrap (x - a) = x - a := IntWalk.i64_in _ (by omega)
  have k6 : IntKind.i64.wrap (y - b) = y - b := IntWalk.i64_in _ (by omega)
  generalize szI (x - a) = sx at *
  generalize szI (y - b) = sy at *
  have k7 : IntKind.i64.wrap (sx + sy) = sx + sy := IntWalk.i64_in _ (by omega)
  have r2 := (Row.new w 55 (KC (t, a, b))).alloc (.cells (KC (u, x, y)) 55)
  have r3 := Row.new (w.alloc (.cells (KC (t, a, b)) 55)) 55 (KC (u, x, y))
  have hb := ((Below.refl w.heap.size w).alloc (Nat.le_refl _) (.cells (KC (t, a, b)) 55)).alloc (by simp) (.cells (KC (u, x, y)) 55)
  rw [World.size_alloc] at r3
  clear bx by' hp hq
  go_enter Tryd.func73, Tryd.ntmps73
  go_wp2
  change Code.wp _ _ _ _ ((w.alloc (.cells (KC (t, a, b)) 55)).alloc (.cells (KC (u, x, y)) 55))
  generalize ((w.alloc (.cells (KC (t, a, b)) 55)).alloc (.cells (KC (u, x, y)) 55)) = w3 at *
  have q1 := cell_q (w := w3) (v := .int .i8 a) (r2.cell 1)
  have q2 := cell_q (w := w3) (v := .int .i8 b) (r2.cell 2)
  have q3 := cell_q (w := w3) (v := .int .i8 x) (r3.cell 1)
  have q4 := cell_q (w := w3) (v := .int .i8 y) (r3.cell 2)
  refine wp_region_calm (by kernel_rfl) (by kernel_rfl) ?_
  repeat (quiet_step (first | with_reducible exact Calls.regrown_of (cX _) | with_reducible exact Calls.regrown_of (cY _)))
  refine wpQuiet_nil ?_
  intro w4 hb4
  go_wp2
  go_ret
  exact ⟨rfl, grown_below hb hb4 hb.size⟩
set_option maxHeartbeats 2000000 in
theorem speedsFn_any (v : Value) (L : List (Int × Int × Int)) (ea : Int) (i g2 g3 : Nat) (w : World) (ho : okT L = true) (he : 0 ≤ ea ∧ ea ≤ 3) (hi : (kAt L 0).1 + (i : Int) + 1 ≤ 200) (h : SlAt eKy w w.heap.size v L)
    (x2 : w.cell? ⟨g2, 0, none⟩ = some v) (x3 : w.cell? ⟨g3, 0, none⟩ = some (.int .i64 ea)) :
    Calls Tryd.prog 72 #[.int .i64 (i : Int), .pointer (some ⟨g2, 0, none⟩), .pointer (some ⟨g3, 0, none⟩)] w fun r w' => r = .returned (.int .i64 (spd L ea ((kAt L 0).1 + (i : Int)))) ∧ Below w.heap.size w w' := by
  have hlen := (okT_iff.1 ho).1
  have k0 := (okT_key ho (i := 0) (by omega)).1
  have p1 := plK_in ho ea ((kAt L 0).1 + (i : Int))
  have p2 := plK_in ho ea ((kAt L 0).1 + (i : Int) + 1)
  have cA := fun (w' : World) (hb : Below w.heap.size w w') => at_any v L ea ((kAt L 0).1 + (i : Int)) w' ho he ⟨by omega, by omega⟩ (h.later hb)
  have cB := fun (w' : World) (hb : Below w.heap.size w w') => at_any v L ea ((kAt L 0).1 + (i : Int) + 1) w' ho he ⟨by omega, by omega⟩ (h.later hb)
  have hv : spd L ea ((kAt L 0).1 + (i : Int)) = szI ((plK L ea ((kAt L 0).1 + (i : Int) + 1)).2.1 - (plK L ea ((kAt L 0).1 + (i : Int))).2.1) + szI ((plK L ea ((kAt L 0).1 + (i : Int) + 1)).2.2 - (plK L ea ((kAt L 0).1 + (i : Int))).2.2) := rfl
  rw [hv]
  have cC := fun w => wayTo_any (plK L ea ((kAt L 0).1 + (i : Int))) (plK L ea ((kAt L 0).1 + (i : Int) + 1)) w p1 p2
  obtain ⟨A, c, rfl, h1, h2, hA⟩ := h
  obtain ⟨b1, o1, rfl, hb1, r1⟩ := hA (by omega)
  have g0 := range_part r1 (kAt_get (i := 0) (by omega))
  rw [eKy_n, Nat.zero_mul, Nat.add_zero] at g0
  have c0 := ky_cell0 g0
  have hl0 : 0 < L.length := by omega
  clear hA h1 h2 r1 g0 hlen p1 p2 hv
  generalize plK L ea ((kAt L 0).1 + (i : Int) + 1) = q at *
  generalize plK L ea ((kAt L 0).1 + (i : Int)) = p at *
  generalize (kAt L 0).1 = s at *
  generalize szI (q.2.1 - p.2.1) + szI (q.2.2 - p.2.2) = sm at *
  have ks : IntKind.i64.wrap s = s := IntWalk.i64_in _ (by omega)
  have kt : IntKind.i64.wrap (s + (i : Int)) = s + (i : Int) := IntWalk.i64_in _ (by omega)
  have ku : IntKind.i64.wrap (s + (i : Int) + 1) = s + (i : Int) + 1 := IntWalk.i64_in _ (by omega)
  have CA := Lib.hid cA
  have CB := Lib.hid cB
  clear cA cB
  have y2 := cell_q x2
  have y3 := cell_q x3
  go_enter Tryd.func72, Tryd.ntmps72
  go_wp2
  refine wp_region_calm (by kernel_rfl) (by kernel_rfl) ?_
  repeat (quiet_step (first | with_reducible exact Calls.regrown_of (CA.out _ (below_regrown w _ _)) | with_reducible exact Calls.regrown_of (CB.out _ (below_regrown w _ _)) | with_reducible exact Calls.regrown_of (cC _)))
  refine wpQuiet_nil ?_
  intro w4 hb4
  go_wp2
  go_ret
  exact ⟨rfl, hb4⟩
set_option maxHeartbeats 400000 in
theorem listByC_i64 (n : Int) (fid : FuncId) (c1 c2 : Value) (F : Nat → Int) (w : World) (hn1 : -1 ≤ n) (hn2 : n ≤ 1000000)
    (hcall : ∀ x w, (callFunc fid #[.int .i64 x, c1, c2]).run Tryd.prog w = .ok (.enter fid #[.int .i64 x, c1, c2]) w)
    (hbody : ∀ i : Nat, (i : Int) < n → ∀ w1, Below w.heap.size w w1 → Calls Tryd.prog fid #[.int .i64 i, c1, c2] w1 fun e w2 => e = .returned (.int .i64 (F i)) ∧ Below w1.heap.size w1 w2) :
    Calls Tryd.prog 71 #[.int .i64 n, .func (.func fid) #[] #[c1, c2]] w (GivesV (eI .i64) 2 (tab F n.toNat) w) := by
  have hown := OwnL.nil_ (E := (eI .i64)) w w.heap.size 2
  have HB := Lib.hid hbody
  clear hbody
  go_enter Tryd.func71, Tryd.ntmps71
  go_wp2
  go_loopw [5, 8] (fun u i wr => ∃ k : Nat, k ≤ n.toNat ∧ i = .int .i64 k ∧ OwnL (eI .i64) wr w.heap.size 2 u (tab F k) ∧ Below w.heap.size w wr) (fun _ i _ => n.toNat - (intOf i).toNat)
  case atStart => exact ⟨0, by omega, rfl, hown, Below.refl _ _⟩
  case round =>
    clear hown
    obtain ⟨k, hk, rfl, hown, hb⟩ := hrel
    by_cases hlt : (k : Int) < n
    · go_wp2_with fail
      refine (HB.out k hlt wr hb).mono ?_
      rintro e w3 ⟨rfl, hb3⟩
      replace hb := grown_below hb hb3 hb.size
      replace hown := hown.below hb3
      clear hb3
      go_wp2_with (at_builtin; refine wpList_append_one rfl _ _ 31 rfl w.heap.size 2 Tryd.underlying31 infoI64K rfl (by decide) (by omega) (hown.alloc _) rfl (F k) rfl (range_new _ _ _) (by rw [tab_length]; omega) (by have := hb.size; simp; omega) ?_; intro v' w4 hown' hgrow)
      go_roundw
      case rel =>
        go_light
        refine ⟨k + 1, by omega, by go_num, ?_, (hown.alloc _).grown_below (hb.alloc hb.size _) hgrow (Nat.le_refl _) (by have := hb.size; simp; omega)⟩
        rw [tab_succ]; exact hown'
      case measure => simp [intOf]; omega
    · have hkn : k = n.toNat := by omega
      subst hkn
      go_wp2
      go_ret
      exact ⟨_, rfl, hown, hb⟩
end Go.Proofs.YtoccklhfiojemaaDoor
