/- impl: changeTrack, ShiftTrack. -/
import Derived.Test.YtkcomhbmhgnhhaaDoorShift
namespace Go.Proofs.YtkcomhbmhgnhhaaDoor
set_option maxRecDepth 100000
open Go.RowKit
set_option linter.unusedVariables false
set_option linter.unusedSimpArgs false
def chC (L : List (Int × Int × Int)) (f : Bool) (M : List (Int × Int × Int)) : Int := if okT L then (if f then (if okT M then 0 else 3) else 2) else 1
theorem chC_in (L : List (Int × Int × Int)) (f : Bool) (M : List (Int × Int × Int)) : 0 ≤ chC L f M ∧ chC L f M ≤ 5 := by
  unfold chC; split <;> (try split) <;> (try split) <;> omega
/-- A track that is changed, and what is wrong. -/
def GivesE (a : Nat → Addr) (M : List (Int × Int × Int)) (c : Int) (w : World) (e : Ending) (w' : World) : Prop :=
  ∃ u, e = .returned (.tuple #[u, errV a c]) ∧ OwnL eKy w' w.heap.size 50 u (ifL c M) ∧ Below w.heap.size w w'
set_option maxHeartbeats 2000000 in
theorem changeTrack3 (v : Value) (L : List (Int × Int × Int)) (f : Bool) (fid : FuncId) (c1 c2 c3 : Value) (M : List (Int × Int × Int)) (a : Nat → Addr) (w : World) (hL : ltK L) (h : SlAt eKy w w.heap.size v L) (hs : Sent w a)
    (hM : okT L = true → f = true → ltK M)
    (hcall : ∀ w, (callFunc fid #[v, c1, c2, c3]).run Tryd.prog w = .ok (.enter fid #[v, c1, c2, c3]) w)
    (hbody : okT L = true → f = true → ∀ w1, Below w.heap.size w w1 → Calls Tryd.prog fid #[v, c1, c2, c3] w1 (GivesV eKy 50 M w1)) :
    Calls Tryd.prog 32 #[v, .bool f, .func (.func fid) #[] #[c1, c2, c3]] w (GivesE a M (chC L f M) w) := by
  have cO := implValidTrack_any v L w hL h
  obtain ⟨A, c, rfl⟩ := h.form
  clear h
  cases ho : okT L with
  | false =>
    have hc : chC L f M = 1 := by unfold chC; rw [ho]; rfl
    rw [ho] at cO
    rw [hc]
    unfold GivesE
    rw [ifL1 _ (by decide), errV1]
    clear hc ho hM hbody
    go_enter Tryd.func32, Tryd.ntmps32
    go_wp2_with (go_at_call 46; refine cO.mono ?_; rintro r w' ⟨rfl, hb⟩; have q0 := (hs.below hb).var0; clear cO hs)
    go_region
    go_wp2
    go_ret2
    exact ⟨_, rfl, OwnL.nil_ _ _ _, hb.drew⟩
  | true =>
    rw [ho] at cO
    cases hf : f with
    | false =>
      have hc : chC L false M = 2 := by unfold chC; rw [ho]; rfl
      rw [hc]
      unfold GivesE
      rw [ifL1 _ (by decide), errV2]
      clear hc ho hM hbody
      go_enter Tryd.func32, Tryd.ntmps32
      go_wp2_with (go_at_call 46; refine cO.mono ?_; rintro r w' ⟨rfl, hb⟩; have q1 := (hs.below hb).var1; clear cO hs)
      go_region
      go_wp2
      go_ret2
      exact ⟨_, rfl, OwnL.nil_ _ _ _, hb.drew⟩
    | true =>
      have HB := Lib.hid (hbody ho hf)
      have hM' := hM ho hf
      cases hk : okT M with
      | true =>
        have hc : chC L true M = 0 := by unfold chC; rw [ho, hk]; rfl
        rw [hc]
        unfold GivesE
        rw [ifL0]
        have cLim := fun (u : Value) (w2 : World) (hu : SlAt eKy w2 w2.heap.size u M) (hs2 : Sent w2 a) => limited_any u M a w2 hM' hu hs2
        simp only [hk, if_true] at cLim
        have HL := Lib.hid cLim
        clear cLim hc
        clear ho hM hbody hf hM' hk
        go_enter Tryd.func32, Tryd.ntmps32
        go_wp2_with (go_at_call 46; refine cO.mono ?_; rintro r w1 ⟨rfl, hb⟩; clear cO)
        refine (HB.out _ hb).mono ?_
        rintro r w2 ⟨u, rfl, hown, hb2⟩
        have hbs := hb.size
        replace hb := grown_below hb hb2 hb.size
        go_wp2_with fail
        refine (HL.out u w2 (hown.sl (by decide)) (hs.below hb)).mono ?_
        rintro r w3 ⟨rfl, hb3⟩
        replace hown := hown.below hb3
        replace hb := grown_below hb hb3 hb.size
        go_wp2
        go_ret2
        exact ⟨_, rfl, hown.mono hbs, hb⟩
      | false =>
        have hc : chC L true M = 3 := by unfold chC; rw [ho, hk]; rfl
        rw [hc]
        unfold GivesE
        rw [ifL1 _ (by decide)]
        have cLim := fun (u : Value) (w2 : World) (hu : SlAt eKy w2 w2.heap.size u M) (hs2 : Sent w2 a) => limited_any u M a w2 hM' hu hs2
        simp only [hk, Bool.false_eq_true, if_false] at cLim
        have HL := Lib.hid cLim
        clear cLim hc
        clear ho hM hbody hf hM' hk
        go_enter Tryd.func32, Tryd.ntmps32
        go_wp2_with (go_at_call 46; refine cO.mono ?_; rintro r w1 ⟨rfl, hb⟩; clear cO)
        refine (HB.out _ hb).mono ?_
        rintro r w2 ⟨u, rfl, hown, hb2⟩
        have hbs := hb.size
        replace hb := grown_below hb hb2 hb.size
        go_wp2_with fail
        refine (HL.out u w2 (hown.sl (by decide)) (hs.below hb)).mono ?_
        rintro r w3 ⟨rfl, hb3⟩
        replace hown := hown.below hb3
        replace hb := grown_below hb hb3 hb.size
        go_wp2
        go_ret2
        exact ⟨_, rfl, OwnL.nil_ _ _ _, hb⟩
def shO (t e s : Int) : Bool := inB t (-200) 200 && (inB e (-48) 48 && inB s (-48) 48)
def shC (t e s : Int) (L : List (Int × Int × Int)) : Int := chC L (shO t e s) (shL t e s L)
theorem shL_len (t e s : Int) (L : List (Int × Int × Int)) : (shL t e s L).length = L.length := tab_length _ _
theorem shL_lt {t e s : Int} {L : List (Int × Int × Int)} (ho : okT L = true) (hf : shO t e s = true) : ltK (shL t e s L) := by
  unfold shO at hf
  simp only [Bool.and_eq_true] at hf
  have h1 := inB_iff.1 hf.1
  have h2 := inB_iff.1 hf.2.1
  have h3 := inB_iff.1 hf.2.2
  intro x hx
  unfold shL tab at hx
  obtain ⟨i, hi, rfl⟩ := List.mem_map.1 hx
  have q := okT_key ho (List.mem_range.1 hi)
  unfold shF ltK1
  dsimp only
  omega
end Go.Proofs.YtkcomhbmhgnhhaaDoor
