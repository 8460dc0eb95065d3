/- RESTORED PAGES: RestorePage: spec and impl. -/
import Derived.Test.YtjbjbdkmomkclaaPar
import Derived.Test.YtjbjbdkmomkclaaPg
import Derived.Test.YtjbjbdkmomkclaaMend
import Derived.Test.YtjbjbdkmomkclaaApp
import Derived.Test.YtjbjbdkmomkclaaEqYes
import Derived.Test.YtjbjbdkmomkclaaIValid
namespace Go.Proofs.Ytjbjbdkmomkclaa
set_option maxRecDepth 100000
open Go.RowKit
set_option linter.unusedVariables false
set_option linter.unusedSimpArgs false
def reC (L : List (Nat → Nat)) (F : Nat → Nat) (p : Int) : Int := if okB L && okF F then (if hpB L p then 0 else 2) else 1
def reF (L : List (Nat → Nat)) (F : Nat → Nat) (q : Nat) : Nat → Nat := unlikeF (fAt L q) (unlikeF (parF L) F)
def reL (L : List (Nat → Nat)) (F : Nat → Nat) (p : Int) : List (Nat → Nat) := L.set p.toNat (reF L F p.toNat)
theorem reC_cases (L : List (Nat → Nat)) (F : Nat → Nat) (p : Int) : (okB L = false ∧ reC L F p = 1) ∨ (okB L = true ∧ okF F = false ∧ reC L F p = 1) ∨ (okB L = true ∧ okF F = true ∧ hpB L p = false ∧ reC L F p = 2) ∨ (okB L = true ∧ okF F = true ∧ hpB L p = true ∧ reC L F p = 0) := by
  unfold reC; cases okB L <;> cases okF F <;> cases hpB L p <;> simp
theorem re_if_len (L : List (Nat → Nat)) (F : Nat → Nat) (p : Int) : (ifL (reC L F p) (reL L F p)).length ≤ 1000 := by
  rcases reC_cases L F p with ⟨_, hc⟩ | ⟨_, _, hc⟩ | ⟨_, _, _, hc⟩ | ⟨ho, _, _, hc⟩
  · rw [hc, ifL1 _ (by decide)]; simp
  · rw [hc, ifL1 _ (by decide)]; simp
  · rw [hc, ifL1 _ (by decide)]; simp
  · rw [hc, ifL0]; unfold reL; rw [List.length_set]; have := okB_len ho; omega
theorem reF_lt {L : List (Nat → Nat)} {F : Nat → Nat} (hL : ltL L) (hF : ∀ k, F k < 65536) (q k : Nat) : reF L F q k < 65536 :=
  unlikeF_lt (fAt_lt hL q) (unlikeF_lt (parN_lt hL _) hF) k
theorem unlikeF_assoc (a b c : Nat → Nat) : unlikeF (unlikeF a b) c = unlikeF a (unlikeF b c) := by
  funext y
  simp only [unlikeF, Nat.xor_assoc]
theorem cells_setFr : ∀ (L : List (Nat → Nat)) (i : Nat), i < L.length → ∀ y, y < 12 → ∀ n : Nat, (eFr.cells L).set (i * 12 + y) (.int .u16 n) = eFr.cells (L.set i (upd (fAt L i) y n))
  | [], i, h, _, _, _ => absurd h (by simp)
  | f :: L, 0, _, y, hy, n => by
    have e : (FC f).toList.set y (.int .u16 n) = (FC (upd f y n)).toList := by rw [← FC_set f n hy, Array.toList_setIfInBounds]
    rw [List.set_cons_zero, Enc.cells_cons, Enc.cells_cons, Nat.zero_mul, Nat.zero_add, List.set_append, if_pos (by rw [eFr.len]; exact hy)]
    exact congrArg (· ++ eFr.cells L) e
  | f :: L, i + 1, h, y, hy, n => by
    have ih := cells_setFr L i (by simpa using h) y hy n
    rw [List.set_cons_succ, Enc.cells_cons, Enc.cells_cons, List.set_append, if_neg (by rw [eFr.len, eFr_n]; omega), eFr.len, eFr_n, show (i + 1) * 12 + y - 12 = i * 12 + y by omega, ih]
    rfl
section
variable {w : World} {base g cap n : Nat} {t : TypeId} {L : List (Nat → Nat)}
theorem OwnL.setFr (h : OwnL eFr w base t (.slice (some ⟨g, 0, none⟩) n cap) L) {i : Nat} (hi : i < L.length) {y : Nat} (hy : y < 12) (x : Nat) :
    OwnL eFr (w.setCell ⟨g, i * 12 + y, none⟩ (.int .u16 x)) base t (.slice (some ⟨g, 0, none⟩) n cap) (L.set i (upd (fAt L i) y x)) := by
  obtain ⟨hl, ⟨hv, h0⟩ | ⟨g', cap', cur, hv, hb, hh, h1, h2, h3, h4⟩⟩ := h
  · cases hv
  · injection hv with e1 e2 e3
    injection e1 with e1
    injection e1 with e1
    subst e1
    subst e3
    have hr := Row.set (cs := cur) hh (i * 12 + y) (.int .u16 x)
    refine ⟨by rw [Enc.cells_length], .inr ⟨g, cap, _, by rw [List.length_set, ← e2], hb, hr, by rw [List.length_set]; exact h1, h2, ?_, ?_⟩⟩
    · rw [← h3]; simp
    · rw [List.length_set, Array.toList_setIfInBounds, List.take_set, h4, cells_setFr L i hi y hy x]
theorem OwnL.cellFr (h : OwnL eFr w base t (.slice (some ⟨g, 0, none⟩) n cap) L) {i : Nat} (hi : i < L.length) {y : Nat} (hy : y < 12) : w.cell? ⟨g, i * 12 + y, none⟩ = some (.int .u16 (fAt L i y)) := by
  obtain ⟨R, hr, _⟩ := h.row
  have h1 := Enc.cells_get (E := eFr) L i (fAt L i) (fAt_get hi) y (.int .u16 (fAt L i y)) (by show (FC (fAt L i)).toList[y]? = _; rw [Array.getElem?_toList]; exact FC_get _ hy)
  rw [eFr_n] at h1
  rw [Row.cell hr]
  simp only [List.getElem?_toArray]
  rw [List.getElem?_append_left (List.getElem?_eq_some_iff.1 h1).1, h1]
theorem OwnL.freeFr (h : OwnL eFr w base t (.slice (some ⟨g, 0, none⟩) n cap) L) (k : Nat) : w.frozen? ⟨g, k, none⟩ = false := by
  obtain ⟨R, hr, _⟩ := h.row
  exact Row.free hr k
end
theorem Blk.kept_of {w w' : World} {g : Nat} {t : TypeId} {f : Nat → Nat} {row : Option Nat} (h : Blk w g t f) (hg : w.grownBy w' row) (hn : row ≠ some g) : Blk w' g t f := by
  unfold Blk; rw [hg.block g h.lt (Ne.symm hn)]; exact h
theorem OwnL.cellsEq {α : Type} {E : Enc α} {w : World} {base : Nat} {t : TypeId} {v : Value} {L M : List α} (h : OwnL E w base t v L) (hl : L.length = M.length) (hc : E.cells L = E.cells M) : OwnL E w base t v M := by
  unfold OwnL at *; rw [← hl, ← hc]; exact h
theorem fAt_set {L : List (Nat → Nat)} {q : Nat} (hq : q < L.length) (f : Nat → Nat) : fAt (L.set q f) q = f := by
  simp [fAt, List.getD_eq_getElem?_getD, hq]
set_option maxHeartbeats 4000000 in
theorem specRestore_any (v : Value) (L : List (Nat → Nat)) (F : Nat → Nat) (p : Int) (w : World) (hL : ltL L) (hF : ∀ k, F k < 65536) (wf : (Lit.int .i64 p).wf = true) (h : SlAt eFr w w.heap.size v L) :
    Calls Try.prog 29 #[v, .agg (FC F), .int .i64 p] w (GivesL eFr 41 (ifL (reC L F p) (reL L F p)) (reC L F p) w) := by
  have b4 := Blk.new w 41 F
  have h0 := (Below.refl w.heap.size w).alloc (Nat.le_refl _) (.cells (FC F) 41)
  have cO := fun w' (hb : Below w.heap.size w w') => specOk_any v L w' (h.later hb)
  have cI := fun w => in_any p 0 ((L.length : Int) - 1) w
  rw [hpB_in] at cI
  have hm := OwnL.made (E := eFr) (w.alloc (.cells (FC F) 41)) (w.heap.size + 1) 41 (by simp)
  rw [World.size_alloc] at hm
  have h1 := h0.alloc h0.size (.cells #[] 41)
  have cF := fun w' (hb : Blk w' w.heap.size 41 F) => okAt_any w.heap.size 0 F w' hb.range
  have hml := h.len
  unfold maxLen at hml
  rcases reC_cases L F p with ⟨ho, hc⟩ | ⟨ho, hf, hc⟩ | ⟨ho, hf, hp, hc⟩ | ⟨ho, hf, hp, hc⟩
  · rw [ho] at cO
    rw [hc, ifL1 _ (by decide)]
    clear ho hc h cI cF
    go_enter Try.func29, Try.ntmps29
    go_wp2_with (go_at_call 57; refine (cO _ h0).mono ?_; rintro e w' ⟨rfl, rfl⟩)
    go_ret2
    exact ⟨_, rfl, hm.mono (by omega), h1⟩
  · rw [ho] at cO
    rw [hf] at cF
    rw [hc, ifL1 _ (by decide)]
    clear ho hc h cI hf
    go_enter Try.func29, Try.ntmps29
    go_wp2_with (first | (go_at_call 57; refine (cO _ h0).mono ?_; rintro e w' ⟨rfl, rfl⟩) | (go_at_call 61; refine (cF _ b4).mono ?_; rintro e w' ⟨rfl, rfl⟩))
    go_ret2
    exact ⟨_, rfl, hm.mono (by omega), h1⟩
  · have hlen := okB_len ho
    rw [ho] at cO
    rw [hf] at cF
    rw [hp] at cI
    rw [hc, ifL1 _ (by decide)]
    have kw : IntKind.i64.wrap ((L.length : Int) - 1) = (L.length : Int) - 1 := IntWalk.i64_in _ (by omega)
    obtain ⟨A, c, rfl⟩ := h.form
    clear ho hc h hf hp
    go_enter Try.func29, Try.ntmps29
    go_wp2_with (first | (go_at_call 57; refine (cO _ h0).mono ?_; rintro e w' ⟨rfl, rfl⟩) | (go_at_call 61; refine (cF _ b4).mono ?_; rintro e w' ⟨rfl, rfl⟩) | (go_at_call 62; refine (cI _).mono ?_; rintro e w' ⟨rfl, rfl⟩))
    go_ret2
    exact ⟨_, rfl, hm.mono (by omega), h1⟩
  · have hlen := okB_len ho
    have hp' := hpB_iff.1 hp
    obtain ⟨q, rfl⟩ := Int.eq_ofNat_of_zero_le hp'.1
    have hq : q < L.length := by omega
    rw [ho] at cO
    rw [hf] at cF
    rw [hp] at cI
    rw [hc, ifL0]
    unfold reL
    rw [Int.toNat_natCast]
    have kw : IntKind.i64.wrap ((L.length : Int) - 1) = (L.length : Int) - 1 := IntWalk.i64_in _ (by omega)
    have cP := fun w' (hb : Below w.heap.size w w') => specParity_any v L w' hL (h.later hb)
    obtain ⟨A, c, rfl⟩ := h.form
    have sp := fun w' (hb : Below w.heap.size w w') => h.later hb
    clear ho hc h hf hp hp'
    go_enter Try.func29, Try.ntmps29
    go_wp2_with (first | (go_at_call 57; refine (cO _ h0).mono ?_; rintro e w' ⟨rfl, rfl⟩) | (go_at_call 61; refine (cF _ b4).mono ?_; rintro e w' ⟨rfl, rfl⟩) | (go_at_call 62; refine (cI _).mono ?_; rintro e w' ⟨rfl, rfl⟩) | (at_builtin; refine wpList_append_sl rfl _ _ 31 rfl (w.heap.size + 1) 41 Try.underlying31 infoFrD rfl (by decide) (by omega) hm rfl rfl (sp _ h1) (by simp <;> omega) (by simp <;> omega) ?_; intro v1 w1 hown hgrow))
    rw [List.nil_append] at hown
    have hb2 := hm.grown_below h1 hgrow (by omega) (by simp <;> omega)
    replace b4 := (b4.alloc (.cells #[] 41)).kept_of hgrow (by simp [Value.ownBlock])
    rcases hown.form with ⟨_, h9⟩ | ⟨g, cap, R, rfl, hgb, hgl, hcap, hcm, _⟩
    · rw [h9] at hq; exact absurd hq (by simp)
    unfold maxLen at hcm
    clear sp hm h0 h1 hgrow cO cI cF kw
    go_wp2_with fail
    refine (cP _ hb2).mono ?_
    rintro e w2 ⟨rfl, hb⟩
    replace hown := hown.below hb
    replace b4 := b4.below hb b4.lt
    replace hb2 := grown_below hb2 hb hb2.size
    replace hgl := Nat.lt_of_lt_of_le hgl hb.size
    clear hb cP
    have b9 := Blk.new w2 41 (parF L)
    have hb := (Below.refl w2.heap.size w2).alloc (Nat.le_refl _) (.cells (FC (parF L)) 41)
    replace hown := hown.below hb
    replace b4 := b4.below hb b4.lt
    replace hb2 := grown_below hb2 hb hb2.size
    have zg : g ≠ w2.heap.size := by omega
    have zb : w.heap.size ≤ w2.heap.size := by omega
    clear hb
    go_wp2_with (refine wpList_store_new (f0 := zeroF) (f := parF L) rfl 41 _ _ rfl rfl rfl (by kernel_rfl) ?_; generalize w2.alloc (.cells (FC (parF L)) 41) = w3 at *)
    generalize w2.heap.size = g9 at *
    go_loopw [10] (fun i wr => ∃ y : Nat, y ≤ 12 ∧ i = .int .i64 y ∧ Blk wr w.heap.size 41 F ∧ Blk wr g9 41 (parF L) ∧ OwnL eFr wr (w.heap.size + 1) 41 (.slice (some ⟨g, 0, none⟩) L.length cap) (L.set q (fun j => if j < y then reF L F q j else fAt L q j)) ∧ Below w.heap.size w wr) (fun i _ => 12 - (intOf i).toNat)
    case atStart =>
      refine ⟨0, by omega, rfl, b4, b9, ?_, hb2⟩
      have e : L.set q (fun j => if j < 0 then reF L F q j else fAt L q j) = L := by
        have e1 : (fun j => if j < 0 then reF L F q j else fAt L q j) = fAt L q := by funext j; simp
        rw [e1]
        apply List.ext_getElem?
        intro i
        by_cases hi : q = i
        · subst hi; rw [List.getElem?_set_self hq, fAt_get hq]
        · rw [List.getElem?_set_ne hi]
      rw [e]
      exact hown
    case round =>
      clear b4 b9 hown hb2
      obtain ⟨y, hy, rfl, b4, b9, hown, hb2⟩ := hrel
      have hql : q < (L.set q (fun j => if j < y then reF L F q j else fAt L q j)).length := by rw [List.length_set]; exact hq
      by_cases hly : y < 12
      · have c1 := cell_q (hown.cellFr hql hly)
        rw [fAt_set hq, if_neg (Nat.lt_irrefl y)] at c1
        have c2 := cell_q (b9.cell hly)
        have c3 := cell_q (b4.cell hly)
        have k1 := u16_xor_nat (parF L y) (F y) (parN_lt hL _ y) (hF y)
        have k2 := u16_xor_nat (fAt L q y) (parF L y ^^^ F y) (fAt_lt hL q y) (unlikeF_lt (parN_lt hL _) hF y)
        have hm : reF L F q y = fAt L q y ^^^ (parF L y ^^^ F y) := rfl
        rw [← hm] at k2
        clear hm
        generalize hM : L.set q (fun j => if j < y then reF L F q j else fAt L q j) = M at *
        go_wp2_with fail
        refine wp_region_tail 16 (by kernel_rfl) (by kernel_rfl) ?_
        simp only [List.take_succ_cons, List.take_zero, List.drop_succ_cons, List.drop_zero]
        repeat (quiet_step (fail))
        refine wpQuiet_nil ?_
        intro w5 hb5
        replace b4 := b4.below hb5 b4.lt
        replace b9 := b9.below hb5 b9.lt
        replace hown := hown.below hb5
        replace hb2 := grown_below hb2 hb5 hb2.size
        have c5 := hown.cellFr hql hly
        have f5 := hown.freeFr (q * 12 + y)
        clear c1 c2 c3 k1 k2 hb5
        go_wp2
        go_roundw
        case rel =>
          go_light
          refine ⟨y + 1, by omega, by go_num, b4.other _ (by show w.heap.size ≠ g; omega), b9.other _ (by show g9 ≠ g; omega), ?_, hb2.setCell (by show w.heap.size ≤ g; omega) _⟩
          have h9 := hown.setFr hql hly (reF L F q y)
          subst hM
          rw [fAt_set hq, List.set_set] at h9
          have e : (fun j => if j < y + 1 then reF L F q j else fAt L q j) = upd (fun j => if j < y then reF L F q j else fAt L q j) y (reF L F q y) := by
            funext j
            unfold upd
            by_cases e : j = y
            · subst e; simp
            · rw [if_neg e]; simp only [show j < y + 1 ↔ j < y by omega]
          rw [e]
          exact h9
        case measure => simp [intOf]; omega
      · have h12 : y = 12 := by omega
        subst h12
        have hc : eFr.cells (L.set q (fun j => if j < 12 then reF L F q j else fAt L q j)) = eFr.cells (L.set q (reF L F q)) := by
          rw [Enc.cells_set L _ hq, Enc.cells_set L _ hq]
          congr 2
        have h9 := hown.cellsEq (M := L.set q (reF L F q)) (by simp) hc
        go_wp2
        go_ret2
        exact ⟨_, rfl, h9.mono (by omega), hb2⟩
set_option maxHeartbeats 4000000 in
theorem implRestore_any (v : Value) (L : List (Nat → Nat)) (F : Nat → Nat) (p : Int) (w : World) (hL : ltL L) (hF : ∀ k, F k < 65536) (wf : (Lit.int .i64 p).wf = true) (h : SlAt eFr w w.heap.size v L) :
    Calls Try.prog 31 #[v, .agg (FC F), .int .i64 p] w (GivesL eFr 41 (ifL (reC L F p) (reL L F p)) (reC L F p) w) := by
  have b4 := Blk.new w 41 F
  have h0 := (Below.refl w.heap.size w).alloc (Nat.le_refl _) (.cells (FC F) 41)
  have cV := fun w' => valid_any F hF w'
  have cP := fun w' (hb : Below w.heap.size w w') => checkPage_any v L p w' hL (h.later hb)
  have hml := h.len
  unfold maxLen at hml
  rcases reC_cases L F p with ⟨ho, hc⟩ | ⟨ho, hf, hc⟩ | ⟨ho, hf, hp, hc⟩ | ⟨ho, hf, hp, hc⟩
  · rw [hc, ifL1 _ (by decide)]
    have hpg : pgC L p = 1 := by unfold pgC; rw [ho]; rfl
    rw [hpg] at cP
    cases hf : okF F <;> rw [hf] at cV <;> clear ho hc h hpg hf
    all_goals
      go_enter Try.func31, Try.ntmps31
      go_wp2_with (first | (refine wpList_load_fr rfl 41 39 _ rfl _ rfl b4 Try.underlying41 (by kernel_rfl) ?_) | (go_at_call 63; refine (cV _).mono ?_; rintro e w1 ⟨rfl, hb1⟩; replace b4 := b4.below hb1 b4.lt; replace h0 := grown_below h0 hb1 h0.size; clear hb1 cV) | (go_at_call 64; refine (cP _ h0).mono ?_; rintro e w1 ⟨rfl, hb1⟩; replace b4 := b4.below hb1 b4.lt; replace h0 := grown_below h0 hb1 h0.size; clear hb1 cP))
      go_ret2
      exact ⟨_, rfl, OwnL.nil_ _ _ _, h0⟩
  · rw [hc, ifL1 _ (by decide)]
    rw [hf] at cV
    clear ho hc h hf cP
    go_enter Try.func31, Try.ntmps31
    go_wp2_with (first | (refine wpList_load_fr rfl 41 39 _ rfl _ rfl b4 Try.underlying41 (by kernel_rfl) ?_) | (go_at_call 63; refine (cV _).mono ?_; rintro e w1 ⟨rfl, hb1⟩; replace b4 := b4.below hb1 b4.lt; replace h0 := grown_below h0 hb1 h0.size; clear hb1 cV))
    go_ret2
    exact ⟨_, rfl, OwnL.nil_ _ _ _, h0⟩
  · rw [hc, ifL1 _ (by decide)]
    have hpg : pgC L p = 2 := by unfold pgC; rw [ho, hp]; rfl
    rw [hpg] at cP
    rw [hf] at cV
    clear ho hc h hf hp hpg
    go_enter Try.func31, Try.ntmps31
    go_wp2_with (first | (refine wpList_load_fr rfl 41 39 _ rfl _ rfl b4 Try.underlying41 (by kernel_rfl) ?_) | (go_at_call 63; refine (cV _).mono ?_; rintro e w1 ⟨rfl, hb1⟩; replace b4 := b4.below hb1 b4.lt; replace h0 := grown_below h0 hb1 h0.size; clear hb1 cV) | (go_at_call 64; refine (cP _ h0).mono ?_; rintro e w1 ⟨rfl, hb1⟩; replace b4 := b4.below hb1 b4.lt; replace h0 := grown_below h0 hb1 h0.size; clear hb1 cP))
    go_ret2
    exact ⟨_, rfl, OwnL.nil_ _ _ _, h0⟩
  · have hlen := okB_len ho
    have hp' := hpB_iff.1 hp
    have hpg : pgC L p = 0 := by unfold pgC; rw [ho, hp]; rfl
    obtain ⟨q, rfl⟩ := Int.eq_ofNat_of_zero_le hp'.1
    have hq : q < L.length := by omega
    rw [hpg] at cP
    rw [hf] at cV
    rw [hc, ifL0]
    unfold reL
    rw [Int.toNat_natCast]
    have cR := fun w' (hb : Below w.heap.size w w') => parity_any v L w' hL (h.later hb)
    have cC := fun (W : World) (hB : Below w.heap.size w W) => clone_any _ L W (by omega) (by omega) (h.later hB)
    have cU1 := fun w => unlike_any (fAt L q) (parF L) (fAt_lt hL q) (parN_lt hL _) w
    have cU2 := fun w => unlike_any (unlikeF (fAt L q) (parF L)) F (unlikeF_lt (fAt_lt hL q) (parN_lt hL _)) hF w
    rw [unlikeF_assoc, show unlikeF (fAt L q) (unlikeF (parF L) F) = reF L F q from rfl] at cU2
    obtain ⟨A, c, rfl, h1, h2, hA⟩ := h
    obtain ⟨pb, po, rfl, hbb, r1⟩ := hA (by omega)
    have s1 := range_part r1 (fAt_get hq)
    rw [eFr_n] at s1
    have CR := Lib.hid cR
    have CC := Lib.hid cC
    have CU1 := Lib.hid cU1
    have CU2 := Lib.hid cU2
    clear ho hc hf hp hp' hpg hA r1 cR cC cU1 cU2
    go_enter Try.func31, Try.ntmps31
    go_wp2_with (first | (refine wpList_load_fr rfl 41 39 _ rfl _ rfl b4 Try.underlying41 (by kernel_rfl) ?_) | (go_at_call 63; refine (cV _).mono ?_; rintro e w1 ⟨rfl, hb1⟩; replace b4 := b4.below hb1 b4.lt; replace h0 := grown_below h0 hb1 h0.size; clear hb1 cV) | (go_at_call 64; refine (cP _ h0).mono ?_; rintro e w1 ⟨rfl, hb1⟩; replace b4 := b4.below hb1 b4.lt; replace h0 := grown_below h0 hb1 h0.size; clear hb1 cP))
    rename_i w2
    refine (CC.out _ h0).mono ?_
    rintro e w3 ⟨u, rfl, hown, hb2⟩
    have zb := h0.size
    have b4l := b4.lt
    replace b4 := b4.below hb2 b4.lt
    replace h0 := grown_below h0 hb2 h0.size
    rcases hown.form with ⟨_, h9⟩ | ⟨g, cap, R, rfl, hgb, hgl, hcap, hcm, _⟩
    · rw [h9] at hq; exact absurd hq (by simp)
    unfold maxLen at hcm
    replace s1 := range_below s1 h0 hbb
    have lb : pb < w3.heap.size := Nat.lt_of_lt_of_le hbb h0.size
    have cR := fun w' (hb : Below w3.heap.size w3 w') => CR.out w' (grown_below h0 hb h0.size)
    clear CC CR hb2
    go_wp2_with fail
    refine wp_region_tail 12 (by kernel_rfl) (by kernel_rfl) ?_
    simp only [List.take_succ_cons, List.take_zero, List.drop_succ_cons, List.drop_zero]
    repeat (first | (refine wpQuiet_load_at rfl 41 39 _ rfl _ _ rfl s1 lb Try.underlying41 (by kernel_rfl) ?_) | (refine wpQuiet_load_fr rfl 41 39 _ rfl _ rfl b4 Try.underlying41 (by kernel_rfl) ?_) | quiet_step (first | with_reducible exact Calls.regrown_of (cR _ (below_regrown w3 _ _)) | with_reducible exact Calls.regrown_of (CU1.out _) | with_reducible exact Calls.regrown_of (CU2.out _)))
    refine wpQuiet_nil ?_
    intro w5 hb5
    replace hown := hown.below hb5
    replace h0 := grown_below h0 hb5 h0.size
    clear hb5 s1
    go_wp2_with (refine wpList_store_own (t := 41) rfl 41 _ _ rfl hown (i := q) hq rfl rfl (reF L F q) rfl rfl (by kernel_rfl) ?_; intro hown2 hw2)
    go_ret2
    exact ⟨_, rfl, hown2.mono zb, hw2.below h0 (by omega) h0.size⟩
end Go.Proofs.Ytjbjbdkmomkclaa
