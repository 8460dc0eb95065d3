/- impl: changeTrack with one capture, ArcTrack. -/
import Derived.Test.YtoccklhfiojemaaDoorArcI
namespace Go.Proofs.YtoccklhfiojemaaDoor
set_option maxRecDepth 100000
open Go.RowKit
set_option linter.unusedVariables false
set_option linter.unusedSimpArgs false
set_option maxHeartbeats 2000000 in
theorem changeTrack1 (v : Value) (L : List (Int × Int × Int)) (f : Bool) (fid : FuncId) (c1 : Value) (M : List (Int × Int × Int)) (a : Nat → Addr) (w : World) (hL : ltK L) (h : SlAt eKy w w.heap.size v L) (hs : Sent w a)
    (hM : okT L = true → f = true → ltK M)
    (hcall : ∀ w, (callFunc fid #[v, c1]).run Tryd.prog w = .ok (.enter fid #[v, c1]) w)
    (hbody : okT L = true → f = true → ∀ w1, Below w.heap.size w w1 → Calls Tryd.prog fid #[v, c1] w1 (GivesV eKy 55 M w1)) :
    Calls Tryd.prog 51 #[v, .bool f, .func (.func fid) #[] #[c1]] w (GivesE a M (chC L f M) w) := by
  have cO := implValidTrack_any v L w hL h
  obtain ⟨A, c, rfl⟩ := h.form
  clear h
  cases ho : okT L with
  | false =>
    have hc : chC L f M = 1 := by unfold chC; rw [ho]; rfl
    rw [ho] at cO
    rw [hc]
    unfold GivesE
    rw [ifL1 _ (by decide), errV1]
    clear hc ho hM hbody
    go_enter Tryd.func51, Tryd.ntmps51
    go_wp2_with (go_at_call 64; refine cO.mono ?_; rintro r w' ⟨rfl, hb⟩; have q0 := (hs.below hb).var0; clear cO hs)
    go_region
    go_wp2
    go_ret2
    exact ⟨_, rfl, OwnL.nil_ _ _ _, hb.drew⟩
  | true =>
    rw [ho] at cO
    cases hf : f with
    | false =>
      have hc : chC L false M = 2 := by unfold chC; rw [ho]; rfl
      rw [hc]
      unfold GivesE
      rw [ifL1 _ (by decide), errV2]
      clear hc ho hM hbody
      go_enter Tryd.func51, Tryd.ntmps51
      go_wp2_with (go_at_call 64; refine cO.mono ?_; rintro r w' ⟨rfl, hb⟩; have q1 := (hs.below hb).var1; clear cO hs)
      go_region
      go_wp2
      go_ret2
      exact ⟨_, rfl, OwnL.nil_ _ _ _, hb.drew⟩
    | true =>
      have HB := Lib.hid (hbody ho hf)
      have hM' := hM ho hf
      cases hk : okT M with
      | true =>
        have hc : chC L true M = 0 := by unfold chC; rw [ho, hk]; rfl
        rw [hc]
        unfold GivesE
        rw [ifL0]
        have cLim := fun (u : Value) (w2 : World) (hu : SlAt eKy w2 w2.heap.size u M) (hs2 : Sent w2 a) => limited_any u M a w2 hM' hu hs2
        simp only [hk, if_true] at cLim
        have HL := Lib.hid cLim
        clear cLim hc
        clear ho hM hbody hf hM' hk
        go_enter Tryd.func51, Tryd.ntmps51
        go_wp2_with (go_at_call 64; refine cO.mono ?_; rintro r w1 ⟨rfl, hb⟩; clear cO)
        refine (HB.out _ hb).mono ?_
        rintro r w2 ⟨u, rfl, hown, hb2⟩
        have hbs := hb.size
        replace hb := grown_below hb hb2 hb.size
        go_wp2_with fail
        refine (HL.out u w2 (hown.sl (by decide)) (hs.below hb)).mono ?_
        rintro r w3 ⟨rfl, hb3⟩
        replace hown := hown.below hb3
        replace hb := grown_below hb hb3 hb.size
        go_wp2
        go_ret2
        exact ⟨_, rfl, hown.mono hbs, hb⟩
      | false =>
        have hc : chC L true M = 3 := by unfold chC; rw [ho, hk]; rfl
        rw [hc]
        unfold GivesE
        rw [ifL1 _ (by decide)]
        have cLim := fun (u : Value) (w2 : World) (hu : SlAt eKy w2 w2.heap.size u M) (hs2 : Sent w2 a) => limited_any u M a w2 hM' hu hs2
        simp only [hk, Bool.false_eq_true, if_false] at cLim
        have HL := Lib.hid cLim
        clear cLim hc
        clear ho hM hbody hf hM' hk
        go_enter Tryd.func51, Tryd.ntmps51
        go_wp2_with (go_at_call 64; refine cO.mono ?_; rintro r w1 ⟨rfl, hb⟩; clear cO)
        refine (HB.out _ hb).mono ?_
        rintro r w2 ⟨u, rfl, hown, hb2⟩
        have hbs := hb.size
        replace hb := grown_below hb hb2 hb.size
        go_wp2_with fail
        refine (HL.out u w2 (hown.sl (by decide)) (hs.below hb)).mono ?_
        rintro r w3 ⟨rfl, hb3⟩
        replace hown := hown.below hb3
        replace hb := grown_below hb hb3 hb.size
        go_wp2
        go_ret2
        exact ⟨_, rfl, OwnL.nil_ _ _ _, hb⟩
set_option maxHeartbeats 2000000 in
theorem arcFn_any (v : Value) (L : List (Int × Int × Int)) (l : Int) (g : Nat) (w : World) (ho : okT L = true) (hl : -24 ≤ l ∧ l ≤ 24) (h : SlAt eKy w w.heap.size v L)
    (x1 : w.cell? ⟨g, 0, none⟩ = some (.int .i64 l)) :
    Calls Tryd.prog 60 #[v, .pointer (some ⟨g, 0, none⟩)] w (GivesV eKy 55 (arcL l L) w) := by
  have cS := lifted_any v L l w ho hl h
  have k1 : IntKind.i8.wrap l = l := IntWalk.i8_in _ (by omega)
  obtain ⟨A, c, rfl⟩ := h.form
  clear h hl
  generalize arcL l L = M at *
  go_enter Tryd.func60, Tryd.ntmps60
  go_wp2_with (go_at_call 61; refine cS.mono ?_; rintro r w1 ⟨u, rfl, hown, hb⟩)
  go_ret
  exact ⟨_, rfl, hown, hb⟩
def arC (l : Int) (L : List (Int × Int × Int)) : Int := chC L (inB l (-24) 24) (arcL l L)
set_option maxHeartbeats 4000000 in
theorem implArcTrack_any (v : Value) (L : List (Int × Int × Int)) (l : Int) (w : World) (a : Nat → Addr) (hL : ltK L) (h : SlAt eKy w w.heap.size v L) (hs : Sent w a) :
    Calls Tryd.prog 32 #[v, .int .i64 l] w (GivesL eKy 55 (ifL (arC l L) (arcL l L)) (arC l L) w) := by
  have hb := (Below.refl w.heap.size w).alloc (Nat.le_refl _) (.cells #[.int .i64 l] 2)
  have r1 := Row.new w 2 #[.int .i64 l]
  have cT := fun w => isWithin_any l 24 w (by decide) (by decide)
  have hv : arC l L = chC L (inB l (-24) 24) (arcL l L) := rfl
  have hbody := fun (hw : okT L = true) (hf : inB l (-24) 24 = true) (g : Nat) (w1 : World) (hb1 : Below w.heap.size w w1) x1 => arcFn_any v L l g w1 hw (inB_iff.1 hf) (h.later hb1) x1
  have cCh := fun (w3 : World) (hb3 : Below w.heap.size w w3) (c1 : Value) hcall hbd => changeTrack1 v L (inB l (-24) 24) 60 c1 (arcL l L) a w3 hL (h.later hb3) (hs.below hb3) (fun hw hf => arc_lt hw (inB_iff.1 hf) L.length (Nat.le_refl _)) hcall hbd
  have cCo := fun (w3 : World) (hb3 : Below w.heap.size w w3) => codeOf_any (arC l L) a w3 (hs.below hb3) (by rw [hv]; exact chC_in _ _ _)
  rw [← hv] at cCh
  have HO := Lib.hid cCo
  have HB := Lib.hid hbody
  have HC := Lib.hid cCh
  clear cCo hv hbody cCh
  obtain ⟨A, cc, rfl⟩ := h.form
  clear h hs hL
  change ∀ w, Calls _ _ _ w fun r w' => r = .returned (.bool (inB l (-24) 24)) ∧ _ at cT
  generalize arC l L = sc at *
  generalize arcL l L = M at *
  generalize inB l (-24) 24 = f at *
  go_enter Tryd.func32, Tryd.ntmps32
  go_wp2_with fail
  generalize w.alloc (.cells #[.int .i64 l] 2) = w3 at *
  have x1 : w3.cell? ⟨w.heap.size, 0, none⟩ = some (.int .i64 l) := r1.cell 0
  refine (cT _).mono ?_
  rintro r w' ⟨rfl, rfl⟩
  go_wp2_with fail
  refine (HC.out _ hb _ (fun w => by kernel_rfl) (fun hw hf w1 hb1 => HB.out hw hf w.heap.size w1 (grown_below hb hb1 hb.size) ((r1.below hb1 r1.lt).cell 0))).mono ?_
  rintro r w4 ⟨u, rfl, hown, hb4⟩
  have hbs := hb.size
  replace hb := grown_below hb hb4 hb.size
  go_wp2_with (go_at_call 40; refine (HO.out _ hb).mono ?_; rintro r w5 ⟨rfl, rfl⟩)
  go_ret2
  exact ⟨_, rfl, hown.mono hbs, hb⟩
end Go.Proofs.YtoccklhfiojemaaDoor
