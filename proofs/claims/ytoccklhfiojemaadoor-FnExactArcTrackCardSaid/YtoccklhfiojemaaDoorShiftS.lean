/- spec: ShiftTrack. -/
import Derived.Test.YtoccklhfiojemaaDoorMade
import Derived.Test.YtoccklhfiojemaaDoorShiftI
import Derived.Test.YtoccklhfiojemaaDoorAsked
namespace Go.Proofs.YtoccklhfiojemaaDoor
set_option maxRecDepth 100000
open Go.RowKit
set_option linter.unusedVariables false
set_option linter.unusedSimpArgs false
theorem wyC_zero (L : List (Int × Int × Int)) (f : Bool) : wyC L 0 f = if okT L then (if f then 0 else 2) else 1 := by
  unfold wyC; rw [show inB 0 0 3 = true from by decide, Bool.true_and]
theorem sh_if_len (t e s : Int) (L : List (Int × Int × Int)) : (ifL (shC t e s L) (shL t e s L)).length ≤ 1000 := by
  by_cases hc : shC t e s L = 0
  · have ho : okT L = true := by
      cases h : okT L with
      | true => rfl
      | false => unfold shC chC at hc; rw [h] at hc; simp at hc
    rw [hc, ifL0, shL_len]
    have := (okT_iff.1 ho).1
    omega
  · rw [ifL1 _ hc]; simp
set_option maxHeartbeats 4000000 in
theorem specShiftTrack_any (v : Value) (L : List (Int × Int × Int)) (t e s : Int) (w : World) (hL : ltK L) (h : SlAt eKy w w.heap.size v L) :
    Calls Tryd.prog 23 #[v, .int .i64 t, .int .i64 e, .int .i64 s] w (GivesL eKy 55 (ifL (shC t e s L) (shL t e s L)) (shC t e s L) w) := by
  have cT := fun w => in_any t (-200) 200 w
  have cE := fun w => in_any e (-48) 48 w
  have cS := fun w => in_any s (-48) 48 w
  have cA := fun f => specAsked_any v L 0 f w hL h
  have hv : shC t e s L = chC L (shO t e s) (shL t e s L) := rfl
  by_cases hall : wyC L 0 (shO t e s) = 0
  case neg =>
    have hsc : shC t e s L = wyC L 0 (shO t e s) := by
      rw [hv, wyC_zero]
      rw [wyC_zero] at hall
      unfold chC
      cases hok : okT L with
      | false => rfl
      | true =>
        cases hf : shO t e s with
        | false => rfl
        | true => rw [hf, hok] at hall; simp at hall
    rw [hsc, ifL1 _ hall]
    have hne : (wyC L 0 (shO t e s) != 0) = true := by simp [hall]
    obtain ⟨A, c, rfl⟩ := h.form
    have cA' := cA (shO t e s)
    clear cA h hv hsc hL
    have hd : shO t e s = (inB t (-200) 200 && (inB e (-48) 48 && inB s (-48) 48)) := rfl
    generalize wyC L 0 (shO t e s) = c0 at *
    clear hall
    cases hT : inB t (-200) 200 with
    | false =>
      rw [hT] at cT hd
      rw [hd] at cA'
      clear hd hT cE cS
      go_enter Tryd.func23, Tryd.ntmps23
      go_wp2_with (first | (go_at_call 47; refine (cT _).mono ?_; rintro r w' ⟨rfl, rfl⟩; clear cT) | (go_at_call 33; refine cA'.mono ?_; rintro r w1 ⟨rfl, hb⟩; clear cA'))
      go_ret2
      exact ⟨_, rfl, OwnL.made _ w.heap.size 55 hb.size, hb.alloc hb.size _⟩
    | true =>
      rw [hT] at cT hd
      cases hE : inB e (-48) 48 with
      | false =>
        rw [hE] at cE hd
        rw [hd] at cA'
        clear hd hT hE cS
        go_enter Tryd.func23, Tryd.ntmps23
        go_wp2_with (first | (go_at_call 47; first | (refine (cT _).mono ?_; rintro r w' ⟨rfl, rfl⟩; clear cT) | (refine (cE _).mono ?_; rintro r w' ⟨rfl, rfl⟩; clear cE)) | (go_at_call 33; refine cA'.mono ?_; rintro r w1 ⟨rfl, hb⟩; clear cA'))
        go_ret2
        exact ⟨_, rfl, OwnL.made _ w.heap.size 55 hb.size, hb.alloc hb.size _⟩
      | true =>
        rw [hE] at cE hd
        cases hS : inB s (-48) 48 with
        | false =>
          rw [hS] at cS hd
          rw [hd] at cA'
          clear hd hT hE hS
          go_enter Tryd.func23, Tryd.ntmps23
          go_wp2_with (first | (go_at_call 47; first | (refine (cT _).mono ?_; rintro r w' ⟨rfl, rfl⟩; clear cT) | (refine (cE _).mono ?_; rintro r w' ⟨rfl, rfl⟩; clear cE) | (refine (cS _).mono ?_; rintro r w' ⟨rfl, rfl⟩; clear cS)) | (go_at_call 33; refine cA'.mono ?_; rintro r w1 ⟨rfl, hb⟩; clear cA'))
          go_ret2
          exact ⟨_, rfl, OwnL.made _ w.heap.size 55 hb.size, hb.alloc hb.size _⟩
        | true =>
          rw [hS] at cS hd
          rw [hd] at cA'
          clear hd hT hE hS
          go_enter Tryd.func23, Tryd.ntmps23
          go_wp2_with (first | (go_at_call 47; first | (refine (cT _).mono ?_; rintro r w' ⟨rfl, rfl⟩; clear cT) | (refine (cE _).mono ?_; rintro r w' ⟨rfl, rfl⟩; clear cE) | (refine (cS _).mono ?_; rintro r w' ⟨rfl, rfl⟩; clear cS)) | (go_at_call 33; refine cA'.mono ?_; rintro r w1 ⟨rfl, hb⟩; clear cA'))
          go_ret2
          exact ⟨_, rfl, OwnL.made _ w.heap.size 55 hb.size, hb.alloc hb.size _⟩
  case pos =>
    have hof : okT L = true ∧ shO t e s = true := by
      rw [wyC_zero] at hall
      cases ho : okT L with
      | false => rw [ho] at hall; simp at hall
      | true =>
        cases hf : shO t e s with
        | false => rw [ho, hf] at hall; simp at hall
        | true => exact ⟨rfl, rfl⟩
    have ho := hof.1
    have hf := hof.2
    have hsc : shC t e s L = mdC (shL t e s L) := by rw [hv]; unfold chC mdC; rw [ho, hf]; rfl
    rw [hsc]
    have cA' := cA true
    rw [show wyC L 0 true = 0 by rw [hf] at hall; exact hall] at cA'
    have hf' := hf
    unfold shO at hf'
    simp only [Bool.and_eq_true] at hf'
    rw [hf'.1] at cT
    rw [hf'.2.1] at cE
    rw [hf'.2.2] at cS
    have hq1 := inB_iff.1 hf'.1
    have hq2 := inB_iff.1 hf'.2.1
    have hq3 := inB_iff.1 hf'.2.2
    have hlen := (okT_iff.1 ho).1
    have cM := Lib.hid (fun (u : Value) (w2 : World) (hu : SlAt e3 w2 w2.heap.size u (shL t e s L)) => made_any u (shL t e s L) w2 (by rw [shL_len]; omega) hu)
    have hU := Lib.hid (show shL t e s L = tab (shF t e s L) L.length from rfl)
    obtain ⟨A, c, rfl, h1, h2, hA⟩ := h
    obtain ⟨b1, o1, rfl, hb1, r1⟩ := hA (by omega)
    have hl1 := hlen.1
    have hl2 := hlen.2
    clear cA hv hsc hL hall hof hf hf' hA h2 hlen
    go_enter Tryd.func23, Tryd.ntmps23
    go_wp2_with (first | (go_at_call 47; first | (refine (cT _).mono ?_; rintro r w' ⟨rfl, rfl⟩; clear cT) | (refine (cE _).mono ?_; rintro r w' ⟨rfl, rfl⟩; clear cE) | (refine (cS _).mono ?_; rintro r w' ⟨rfl, rfl⟩; clear cS)) | (go_at_call 33; refine cA'.mono ?_; rintro r w1 ⟨rfl, hb⟩; clear cA'; have hown := OwnL.made (E := e3) w1 w.heap.size 70 hb.size; have h0 := hb.alloc hb.size (.cells #[] 70)))
    go_loopw [13, 14] (fun u i wr => ∃ k : Nat, k ≤ L.length ∧ i = .int .i64 k ∧ OwnL e3 wr w.heap.size 70 u (tab (shF t e s L) k) ∧ Below w.heap.size w wr) (fun _ i _ => L.length - (intOf i).toNat)
    case atStart => exact ⟨0, by omega, rfl, hown, h0⟩
    case round =>
      clear hown h0 hb
      obtain ⟨k, hk, rfl, hown, hb⟩ := hrel
      by_cases hlt : k < L.length
      · have g1 := range_below (range_part r1 (kAt_get hlt)) hb hb1
        rw [eKy_n] at g1
        have q := okT_key ho hlt
        have hF : shF t e s L k = ((kAt L k).1 + t, (kAt L k).2.1 + e, (kAt L k).2.2 + s) := rfl
        have HS := Lib.hid (tab_succ (shF t e s L) k)
        have hll : (tab (shF t e s L) k).length ≤ 1000 := by rw [tab_length]; omega
        clear r1 ho
        generalize kAt L k = a at *
        obtain ⟨x, y, z⟩ := a
        dsimp only at q hF
        have HF := Lib.hid hF
        clear hF
        have cN := fun w => numbers_any x y z w ⟨by omega, by omega⟩ ⟨by omega, by omega⟩ ⟨by omega, by omega⟩
        unfold N3 at cN
        dsimp only at cN
        have k1 : IntKind.i64.wrap (x + t) = x + t := IntWalk.i64_in _ (by omega)
        have k2 : IntKind.i64.wrap (y + e) = y + e := IntWalk.i64_in _ (by omega)
        have k3 : IntKind.i64.wrap (z + s) = z + s := IntWalk.i64_in _ (by omega)
        clear q
        go_wp2_with (first | (refine wpList_load_el (E := eKy) rfl 55 _ rfl _ _ rfl (x, y, z) (KC (x, y, z)) rfl g1 Tryd.underlying55 rfl (by kernel_rfl) ?_) | (go_at_call 48; refine (cN _).mono ?_; rintro r w3 ⟨rfl, hb3⟩; replace hown := hown.below hb3; replace hb := grown_below hb hb3 hb.size; clear hb3 cN g1; have hsz := hb.size; replace hown := hown.alloc (.cells #[.int .i64 x, .int .i64 y, .int .i64 z] 70); replace hb := hb.alloc hb.size (.cells #[.int .i64 x, .int .i64 y, .int .i64 z] 70)) | (refine wpList_build1 (v := .agg (N3 (x + t, y + e, z + s))) (cs := N3 (x + t, y + e, z + s)) rfl 69 70 _ rfl rfl (fun w => run_build_n3s w (x + t, y + e, z + s)) ?_) | (at_builtin; refine wpList_append_one rfl _ _ 69 rfl w.heap.size 70 Tryd.underlying69 infoN3 rfl (by decide) (by omega) (hown.alloc (.cells (N3 (x + t, y + e, z + s)) 70)) rfl (x + t, y + e, z + s) rfl (range_new _ _ (N3 (x + t, y + e, z + s))) (by omega) (by simp; omega) ?_; intro v' w6 hown' hgrow))
        go_roundw
        case rel =>
          go_light
          refine ⟨k + 1, by omega, by go_num, ?_, (hown.alloc _).grown_below (hb.alloc hb.size _) hgrow (Nat.le_refl _) (by simp; omega)⟩
          rw [HS.out, HF.out]; exact hown'
        case measure => simp [intOf]; omega
      · have hkl : k = L.length := by omega
        subst hkl
        rw [← hU.out] at hown
        clear hU r1 ho
        go_wp2_with fail
        refine (cM.out _ _ (hown.sl (by decide))).mono ?_
        rintro r w4 ⟨u, rfl, hown4, hb4⟩
        go_wp2
        go_ret2
        exact ⟨_, rfl, hown4.mono hb.size, grown_below hb hb4 hb.size⟩
end Go.Proofs.YtoccklhfiojemaaDoor
