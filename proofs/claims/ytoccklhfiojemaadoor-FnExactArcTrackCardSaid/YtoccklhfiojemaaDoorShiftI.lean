/- impl: changeTrack, ShiftTrack. -/
import Derived.Test.YtoccklhfiojemaaDoorShift
namespace Go.Proofs.YtoccklhfiojemaaDoor
set_option maxRecDepth 100000
open Go.RowKit
set_option linter.unusedVariables false
set_option linter.unusedSimpArgs false
def chC (L : List (Int × Int × Int)) (f : Bool) (M : List (Int × Int × Int)) : Int := if okT L then (if f then (if okT M then 0 else 3) else 2) else 1
theorem chC_in (L : List (Int × Int × Int)) (f : Bool) (M : List (Int × Int × Int)) : 0 ≤ chC L f M ∧ chC L f M ≤ 5 := by
  unfold chC; split <;> (try split) <;> (try split) <;> omega
/-- A track that is changed, and what is wrong. -/
def GivesE (a : Nat → Addr) (M : List (Int × Int × Int)) (c : Int) (w : World) (e : Ending) (w' : World) : Prop :=
  ∃ u, e = .returned (.tuple #[u, errV a c]) ∧ OwnL eKy w' w.heap.size 55 u (ifL c M) ∧ Below w.heap.size w w'
set_option maxHeartbeats 2000000 in
theorem changeTrack3 (v : Value) (L : List (Int × Int × Int)) (f : Bool) (fid : FuncId) (c1 c2 c3 : Value) (M : List (Int × Int × Int)) (a : Nat → Addr) (w : World) (hL : ltK L) (h : SlAt eKy w w.heap.size v L) (hs : Sent w a)
    (hM : okT L = true → f = true → ltK M)
    (hcall : ∀ w, (callFunc fid #[v, c1, c2, c3]).run Tryd.prog w = .ok (.enter fid #[v, c1, c2, c3]) w)
    (hbody : okT L = true → f = true → ∀ w1, Below w.heap.size w w1 → Calls Tryd.prog fid #[v, c1, c2, c3] w1 (GivesV eKy 55 M w1)) :
    Calls Tryd.prog 51 #[v, .bool f, .func (.func fid) #[] #[c1, c2, c3]] w (GivesE a M (chC L f M) w) := by
  have cO := implValidTrack_any v L w hL h
  obtain ⟨A, c, rfl⟩ := h.form
  clear h
  cases ho : okT L with
  | false =>
    have hc : chC L f M = 1 := by unfold chC; rw [ho]; rfl
    rw [ho] at cO
    rw [hc]
    unfold GivesE
    rw [ifL1 _ (by decide), errV1]
    clear hc ho hM hbody
    go_enter Tryd.func51, Tryd.ntmps51
    go_wp2_with (go_at_call 64; refine cO.mono ?_; rintro r w' ⟨rfl, hb⟩; have q0 := (hs.below hb).var0; clear cO hs)
    go_region
    go_wp2
    go_ret2
    exact ⟨_, rfl, OwnL.nil_ _ _ _, hb.drew⟩
  | true =>
    rw [ho] at cO
    cases hf : f with
    | false =>
      have hc : chC L false M = 2 := by unfold chC; rw [ho]; rfl
      rw [hc]
      unfold GivesE
      rw [ifL1 _ (by decide), errV2]
      clear hc ho hM hbody
      go_enter Tryd.func51, Tryd.ntmps51
      go_wp2_with (go_at_call 64; refine cO.mono ?_; rintro r w' ⟨rfl, hb⟩; have q1 := (hs.below hb).var1; clear cO hs)
      go_region
      go_wp2
      go_ret2
      exact ⟨_, rfl, OwnL.nil_ _ _ _, hb.drew⟩
    | true =>
      have HB := Lib.hid (hbody ho hf)
      have hM' := hM ho hf
      cases hk : okT M with
      | true =>
        have hc : chC L true M = 0 := by unfold chC; rw [ho, hk]; rfl
        rw [hc]
        unfold GivesE
        rw [ifL0]
        have cLim := fun (u : Value) (w2 : World) (hu : SlAt eKy w2 w2.heap.size u M) (hs2 : Sent w2 a) => limited_any u M a w2 hM' hu hs2
        simp only [hk, if_true] at cLim
        have HL := Lib.hid cLim
        clear cLim hc
        clear ho hM hbody hf hM' hk
        go_enter Tryd.func51, Tryd.ntmps51
        go_wp2_with (go_at_call 64; refine cO.mono ?_; rintro r w1 ⟨rfl, hb⟩; clear cO)
        refine (HB.out _ hb).mono ?_
        rintro r w2 ⟨u, rfl, hown, hb2⟩
        have hbs := hb.size
        replace hb := grown_below hb hb2 hb.size
        go_wp2_with fail
        refine (HL.out u w2 (hown.sl (by decide)) (hs.below hb)).mono ?_
        rintro r w3 ⟨rfl, hb3⟩
        replace hown := hown.below hb3
        replace hb := grown_below hb hb3 hb.size
        go_wp2
        go_ret2
        exact ⟨_, rfl, hown.mono hbs, hb⟩
      | false =>
        have hc : chC L true M = 3 := by unfold chC; rw [ho, hk]; rfl
        rw [hc]
        unfold GivesE
        rw [ifL1 _ (by decide)]
        have cLim := fun (u : Value) (w2 : World) (hu : SlAt eKy w2 w2.heap.size u M) (hs2 : Sent w2 a) => limited_any u M a w2 hM' hu hs2
        simp only [hk, Bool.false_eq_true, if_false] at cLim
        have HL := Lib.hid cLim
        clear cLim hc
        clear ho hM hbody hf hM' hk
        go_enter Tryd.func51, Tryd.ntmps51
        go_wp2_with (go_at_call 64; refine cO.mono ?_; rintro r w1 ⟨rfl, hb⟩; clear cO)
        refine (HB.out _ hb).mono ?_
        rintro r w2 ⟨u, rfl, hown, hb2⟩
        have hbs := hb.size
        replace hb := grown_below hb hb2 hb.size
        go_wp2_with fail
        refine (HL.out u w2 (hown.sl (by decide)) (hs.below hb)).mono ?_
        rintro r w3 ⟨rfl, hb3⟩
        replace hown := hown.below hb3
        replace hb := grown_below hb hb3 hb.size
        go_wp2
        go_ret2
        exact ⟨_, rfl, OwnL.nil_ _ _ _, hb⟩
set_option maxHeartbeats 2000000 in
theorem shiftFn_any (v : Value) (L : List (Int × Int × Int)) (t e s : Int) (g : Nat) (w : World) (ho : okT L = true) (ht : -200 ≤ t ∧ t ≤ 200) (he : -48 ≤ e ∧ e ≤ 48) (hs : -48 ≤ s ∧ s ≤ 48) (h : SlAt eKy w w.heap.size v L)
    (x1 : w.cell? ⟨g, 0, none⟩ = some (.int .i64 t)) (x2 : w.cell? ⟨g + 1, 0, none⟩ = some (.int .i64 e)) (x3 : w.cell? ⟨g + 1 + 1, 0, none⟩ = some (.int .i64 s)) :
    Calls Tryd.prog 52 #[v, .pointer (some ⟨g, 0, none⟩), .pointer (some ⟨g + 1, 0, none⟩), .pointer (some ⟨g + 1 + 1, 0, none⟩)] w (GivesV eKy 55 (shL t e s L) w) := by
  have cS := shifted_any v L t e s w ho ht he hs h
  have k1 : IntKind.i16.wrap t = t := IntWalk.i16_in _ (by omega)
  have k2 : IntKind.i8.wrap e = e := IntWalk.i8_in _ (by omega)
  have k3 : IntKind.i8.wrap s = s := IntWalk.i8_in _ (by omega)
  obtain ⟨A, c, rfl⟩ := h.form
  clear h ht he hs
  generalize shL t e s L = M at *
  unfold KC at cS
  dsimp only at cS
  go_enter Tryd.func52, Tryd.ntmps52
  go_wp2_with (go_at_call 53; refine cS.mono ?_; rintro r w1 ⟨u, rfl, hown, hb⟩)
  go_ret
  exact ⟨_, rfl, hown, hb⟩
def shO (t e s : Int) : Bool := inB t (-200) 200 && (inB e (-48) 48 && inB s (-48) 48)
def shC (t e s : Int) (L : List (Int × Int × Int)) : Int := chC L (shO t e s) (shL t e s L)
theorem shL_len (t e s : Int) (L : List (Int × Int × Int)) : (shL t e s L).length = L.length := tab_length _ _
theorem shL_lt {t e s : Int} {L : List (Int × Int × Int)} (ho : okT L = true) (hf : shO t e s = true) : ltK (shL t e s L) := by
  unfold shO at hf
  simp only [Bool.and_eq_true] at hf
  have h1 := inB_iff.1 hf.1
  have h2 := inB_iff.1 hf.2.1
  have h3 := inB_iff.1 hf.2.2
  intro x hx
  unfold shL tab at hx
  obtain ⟨i, hi, rfl⟩ := List.mem_map.1 hx
  have q := okT_key ho (List.mem_range.1 hi)
  unfold shF ltK1
  dsimp only
  omega
set_option maxHeartbeats 4000000 in
theorem implShiftTrack_any (v : Value) (L : List (Int × Int × Int)) (t e s : Int) (w : World) (a : Nat → Addr) (hL : ltK L) (h : SlAt eKy w w.heap.size v L) (hs : Sent w a) :
    Calls Tryd.prog 24 #[v, .int .i64 t, .int .i64 e, .int .i64 s] w (GivesL eKy 55 (ifL (shC t e s L) (shL t e s L)) (shC t e s L) w) := by
  have hb := (((Below.refl w.heap.size w).alloc (Nat.le_refl _) (.cells #[.int .i64 t] 2)).alloc (by simp) (.cells #[.int .i64 e] 2)).alloc (by simp; omega) (.cells #[.int .i64 s] 2)
  have r1 := ((Row.new w 2 #[.int .i64 t]).alloc (.cells #[.int .i64 e] 2)).alloc (.cells #[.int .i64 s] 2)
  have r2 := (Row.new (w.alloc (.cells #[.int .i64 t] 2)) 2 #[.int .i64 e]).alloc (.cells #[.int .i64 s] 2)
  have r3 := Row.new ((w.alloc (.cells #[.int .i64 t] 2)).alloc (.cells #[.int .i64 e] 2)) 2 #[.int .i64 s]
  rw [World.size_alloc] at r2
  rw [World.size_alloc, World.size_alloc] at r3
  have cT := fun w => isWithin_any t 200 w (by decide) (by decide)
  have cE := fun w => isWithin_any e 48 w (by decide) (by decide)
  have cS := fun w => isWithin_any s 48 w (by decide) (by decide)
  have hv : shC t e s L = chC L (shO t e s) (shL t e s L) := rfl
  have hbody := fun (hw : okT L = true) (hf : shO t e s = true) (g : Nat) (w1 : World) (hb1 : Below w.heap.size w w1) x1 x2 x3 => by
    have hf' := hf
    unfold shO at hf'
    simp only [Bool.and_eq_true] at hf'
    exact shiftFn_any v L t e s g w1 hw (inB_iff.1 hf'.1) (inB_iff.1 hf'.2.1) (inB_iff.1 hf'.2.2) (h.later hb1) x1 x2 x3
  have cCh := fun (w3 : World) (hb3 : Below w.heap.size w w3) (c1 c2 c3 : Value) hcall hbd => changeTrack3 v L (shO t e s) 52 c1 c2 c3 (shL t e s L) a w3 hL (h.later hb3) (hs.below hb3) (fun hw hf => shL_lt hw hf) hcall hbd
  have cCo := fun (w3 : World) (hb3 : Below w.heap.size w w3) => codeOf_any (shC t e s L) a w3 (hs.below hb3) (by rw [hv]; exact chC_in _ _ _)
  rw [← hv] at cCh
  have HO := Lib.hid cCo
  clear cCo hv
  obtain ⟨A, cc, rfl⟩ := h.form
  cases hT : inB t (-200) 200 with
  | false =>
    have hf : shO t e s = false := by unfold shO; rw [hT]; rfl
    rw [hf] at cCh
    have HC := Lib.hid cCh
    rw [show inB t (-200) 200 = false from hT] at cT
    clear hbody cCh hf hT h hs hL
    generalize shC t e s L = sc at *
    generalize shL t e s L = M at *
    go_enter Tryd.func24, Tryd.ntmps24
    go_wp2_with fail
    generalize (((w.alloc (.cells #[.int .i64 t] 2)).alloc (.cells #[.int .i64 e] 2)).alloc (.cells #[.int .i64 s] 2)) = w3 at *
    have x1 : w3.cell? ⟨w.heap.size, 0, none⟩ = some (.int .i64 t) := r1.cell 0
    have x2 : w3.cell? ⟨w.heap.size + 1, 0, none⟩ = some (.int .i64 e) := r2.cell 0
    have x3 : w3.cell? ⟨w.heap.size + 1 + 1, 0, none⟩ = some (.int .i64 s) := r3.cell 0
    refine (cT _).mono ?_
    rintro r w' ⟨rfl, rfl⟩
    go_wp2_with fail
    refine (HC.out _ hb _ _ _ (fun w => by kernel_rfl) (fun _ hf => by cases hf)).mono ?_
    rintro r w4 ⟨u, rfl, hown, hb4⟩
    have hbs := hb.size
    replace hb := grown_below hb hb4 hb.size
    go_wp2_with (go_at_call 40; refine (HO.out _ hb).mono ?_; rintro r w5 ⟨rfl, rfl⟩)
    go_ret2
    exact ⟨_, rfl, hown.mono hbs, hb⟩
  | true =>
    cases hE : inB e (-48) 48 with
    | false =>
      have hf : shO t e s = false := by unfold shO; rw [hT, hE]; rfl
      rw [hf] at cCh
      have HC := Lib.hid cCh
      rw [show inB t (-200) 200 = true from hT] at cT
      rw [show inB e (-48) 48 = false from hE] at cE
      clear hbody cCh hf hT hE h hs hL
      generalize shC t e s L = sc at *
      generalize shL t e s L = M at *
      go_enter Tryd.func24, Tryd.ntmps24
      go_wp2_with fail
      generalize (((w.alloc (.cells #[.int .i64 t] 2)).alloc (.cells #[.int .i64 e] 2)).alloc (.cells #[.int .i64 s] 2)) = w3 at *
      have x1 : w3.cell? ⟨w.heap.size, 0, none⟩ = some (.int .i64 t) := r1.cell 0
      have x2 : w3.cell? ⟨w.heap.size + 1, 0, none⟩ = some (.int .i64 e) := r2.cell 0
      have x3 : w3.cell? ⟨w.heap.size + 1 + 1, 0, none⟩ = some (.int .i64 s) := r3.cell 0
      refine (cT _).mono ?_
      rintro r w' ⟨rfl, rfl⟩
      go_wp2_with fail
      refine (cE _).mono ?_
      rintro r w' ⟨rfl, rfl⟩
      go_wp2_with fail
      refine (HC.out _ hb _ _ _ (fun w => by kernel_rfl) (fun _ hf => by cases hf)).mono ?_
      rintro r w4 ⟨u, rfl, hown, hb4⟩
      have hbs := hb.size
      replace hb := grown_below hb hb4 hb.size
      go_wp2_with (go_at_call 40; refine (HO.out _ hb).mono ?_; rintro r w5 ⟨rfl, rfl⟩)
      go_ret2
      exact ⟨_, rfl, hown.mono hbs, hb⟩
    | true =>
      cases hS : inB s (-48) 48 with
      | false =>
        have hf : shO t e s = false := by unfold shO; rw [hT, hE, hS]; rfl
        rw [hf] at cCh
        have HC := Lib.hid cCh
        rw [show inB t (-200) 200 = true from hT] at cT
        rw [show inB e (-48) 48 = true from hE] at cE
        rw [show inB s (-48) 48 = false from hS] at cS
        clear hbody cCh hf hT hE hS h hs hL
        generalize shC t e s L = sc at *
        generalize shL t e s L = M at *
        go_enter Tryd.func24, Tryd.ntmps24
        go_wp2_with fail
        generalize (((w.alloc (.cells #[.int .i64 t] 2)).alloc (.cells #[.int .i64 e] 2)).alloc (.cells #[.int .i64 s] 2)) = w3 at *
        have x1 : w3.cell? ⟨w.heap.size, 0, none⟩ = some (.int .i64 t) := r1.cell 0
        have x2 : w3.cell? ⟨w.heap.size + 1, 0, none⟩ = some (.int .i64 e) := r2.cell 0
        have x3 : w3.cell? ⟨w.heap.size + 1 + 1, 0, none⟩ = some (.int .i64 s) := r3.cell 0
        refine (cT _).mono ?_
        rintro r w' ⟨rfl, rfl⟩
        go_wp2_with fail
        refine (cE _).mono ?_
        rintro r w' ⟨rfl, rfl⟩
        go_wp2_with fail
        refine (cS _).mono ?_
        rintro r w' ⟨rfl, rfl⟩
        go_wp2_with fail
        refine (HC.out _ hb _ _ _ (fun w => by kernel_rfl) (fun _ hf => by cases hf)).mono ?_
        rintro r w4 ⟨u, rfl, hown, hb4⟩
        have hbs := hb.size
        replace hb := grown_below hb hb4 hb.size
        go_wp2_with (go_at_call 40; refine (HO.out _ hb).mono ?_; rintro r w5 ⟨rfl, rfl⟩)
        go_ret2
        exact ⟨_, rfl, hown.mono hbs, hb⟩
      | true =>
        have hf : shO t e s = true := by unfold shO; rw [hT, hE, hS]; rfl
        rw [hf] at cCh
        have HB := Lib.hid (fun hw => hbody hw hf)
        have HC := Lib.hid cCh
        rw [show inB t (-200) 200 = true from hT] at cT
        rw [show inB e (-48) 48 = true from hE] at cE
        rw [show inB s (-48) 48 = true from hS] at cS
        clear hbody cCh hf hT hE hS h hs hL
        generalize shC t e s L = sc at *
        generalize shL t e s L = M at *
        go_enter Tryd.func24, Tryd.ntmps24
        go_wp2_with fail
        generalize (((w.alloc (.cells #[.int .i64 t] 2)).alloc (.cells #[.int .i64 e] 2)).alloc (.cells #[.int .i64 s] 2)) = w3 at *
        have x1 : w3.cell? ⟨w.heap.size, 0, none⟩ = some (.int .i64 t) := r1.cell 0
        have x2 : w3.cell? ⟨w.heap.size + 1, 0, none⟩ = some (.int .i64 e) := r2.cell 0
        have x3 : w3.cell? ⟨w.heap.size + 1 + 1, 0, none⟩ = some (.int .i64 s) := r3.cell 0
        refine (cT _).mono ?_
        rintro r w' ⟨rfl, rfl⟩
        go_wp2_with fail
        refine (cE _).mono ?_
        rintro r w' ⟨rfl, rfl⟩
        go_wp2_with fail
        refine (cS _).mono ?_
        rintro r w' ⟨rfl, rfl⟩
        go_wp2_with fail
        refine (HC.out _ hb _ _ _ (fun w => by kernel_rfl) (fun hw _ w1 hb1 => HB.out hw w.heap.size w1 (grown_below hb hb1 hb.size) ((r1.below hb1 r1.lt).cell 0) ((r2.below hb1 r2.lt).cell 0) ((r3.below hb1 r3.lt).cell 0))).mono ?_
        rintro r w4 ⟨u, rfl, hown, hb4⟩
        have hbs := hb.size
        replace hb := grown_below hb hb4 hb.size
        go_wp2_with (go_at_call 40; refine (HO.out _ hb).mono ?_; rintro r w5 ⟨rfl, rfl⟩)
        go_ret2
        exact ⟨_, rfl, hown.mono hbs, hb⟩
end Go.Proofs.YtoccklhfiojemaaDoor
