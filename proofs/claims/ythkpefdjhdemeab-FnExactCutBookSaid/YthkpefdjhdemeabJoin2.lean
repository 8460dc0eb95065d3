/- JoinBooks, CutBook: spec and impl. -/
import Derived.Test.YthkpefdjhdemeabRows
import Derived.Test.YthkpefdjhdemeabConcat
namespace Go.Proofs.Ythkpefdjhdemeab
set_option maxRecDepth 100000
open Go.RowKit
set_option linter.unusedVariables false
set_option linter.unusedSimpArgs false
def joinV (L M : List (Nat → Nat)) : List (Nat → Nat) := L ++ M
def joC (L M : List (Nat → Nat)) : Int := if okB L && okB M then (if L.length + M.length ≤ 40 then 0 else 3) else 1
theorem joC_cases (L M : List (Nat → Nat)) : (okB L = false ∧ joC L M = 1) ∨ (okB L = true ∧ okB M = false ∧ joC L M = 1) ∨ (okB L = true ∧ okB M = true ∧ 40 < L.length + M.length ∧ joC L M = 3) ∨ (okB L = true ∧ okB M = true ∧ L.length + M.length ≤ 40 ∧ joC L M = 0) := by
  unfold joC
  cases okB L <;> cases okB M
  · simp
  · simp
  · simp
  · by_cases h : L.length + M.length ≤ 40
    · simp [h]
    · simp [h]; omega
theorem jo_if_len (L M : List (Nat → Nat)) : (ifL (joC L M) (joinV L M)).length ≤ 1000 := by
  refine ifL_len fun hc => ?_
  rcases joC_cases L M with ⟨_, h⟩ | ⟨_, _, h⟩ | ⟨_, _, _, h⟩ | ⟨_, _, h, _⟩
  · omega
  · omega
  · omega
  · unfold joinV; rw [List.length_append]; omega
set_option maxHeartbeats 1000000 in
theorem specJoinBooks_any (u v : Value) (L M : List (Nat → Nat)) (w : World) (h : SlAt eFr w w.heap.size u L) (h2 : SlAt eFr w w.heap.size v M) :
    Calls Try.prog 42 #[u, v] w (GivesL eFr 54 (ifL (joC L M) (joinV L M)) (joC L M) w) := by
  have cO := specOk_any u L w h
  have cO2 := specOk_any v M w h2
  obtain ⟨A, c, rfl⟩ := h.form
  obtain ⟨B, d, rfl⟩ := h2.form
  have hm := OwnL.made (E := eFr) w w.heap.size 54 (Nat.le_refl _)
  have h0 := (Below.refl w.heap.size w).alloc (Nat.le_refl _) (.cells #[] 54)
  rcases joC_cases L M with ⟨ho, hc⟩ | ⟨ho, ho2, hc⟩ | ⟨ho, ho2, hn, hc⟩ | ⟨ho, ho2, hn, hc⟩
  · rw [ho] at cO
    rw [hc, ifL1 _ (by decide)]
    clear ho hc h h2 cO2
    go_enter Try.func42, Try.ntmps42
    go_wp2_with (go_at_call 57; refine cO.mono ?_; rintro e w' ⟨rfl, rfl⟩)
    go_ret2
    exact ⟨_, rfl, hm, h0⟩
  · rw [ho] at cO
    rw [ho2] at cO2
    rw [hc, ifL1 _ (by decide)]
    clear ho ho2 hc h h2
    go_enter Try.func42, Try.ntmps42
    go_wp2_with fail
    refine cO.mono ?_
    rintro e w' ⟨rfl, rfl⟩
    go_wp2_with fail
    refine cO2.mono ?_
    rintro e w' ⟨rfl, rfl⟩
    go_wp2
    go_ret2
    exact ⟨_, rfl, hm, h0⟩
  all_goals
    rw [ho] at cO
    rw [ho2] at cO2
    have l1 := okB_len ho
    have l2 := okB_len ho2
    rw [hc]
    have s1 := h.alloc (Nat.le_refl _) (.cells #[] 54)
    clear ho ho2 hc
    go_enter Try.func42, Try.ntmps42
    go_wp2_with fail
    refine cO.mono ?_
    rintro e w' ⟨rfl, rfl⟩
    go_wp2_with fail
    refine cO2.mono ?_
    rintro e w' ⟨rfl, rfl⟩
    go_wp2_with (first | (at_builtin; refine wpList_append_sl rfl (.tmp 16) (.tmp 17) 26 rfl w.heap.size 54 Try.underlying26 infoFrL rfl (by decide) (by omega) hm rfl rfl s1 (by simp; omega) (by simp) ?_; intro v1 w1 hown hgrow; have hb1 := hm.grown_below h0 hgrow (Nat.le_refl _) (by simp); rw [List.nil_append] at hown; clear hgrow) | (at_builtin; refine wpList_append_sl rfl (.tmp 18) (.tmp 19) 26 rfl w.heap.size 54 Try.underlying26 infoFrL rfl (by decide) (by omega) hown rfl rfl (h2.below hb1) (by omega) hb1.size ?_; intro v2 w2 hown2 hgrow2; have hb2 := hown.grown_below hb1 hgrow2 (Nat.le_refl _) hb1.size; obtain ⟨A9, c9, hv9⟩ : ∃ A9 c9, v2 = .slice A9 (L ++ M).length c9 := hown2.val; subst hv9; have hl9 : (L ++ M).length = L.length + M.length := List.length_append; generalize hN9 : (L ++ M).length = N9 at *; have HN9 := Lib.hid hN9; clear hN9))
  · have hm3 := OwnL.made (E := eFr) w2 w.heap.size 54 hb2.size
    have hb3 := hb2.alloc hb2.size (.cells #[] 54)
    go_ret2
    rw [ifL1 _ (by decide)]
    exact ⟨_, rfl, hm3, hb3⟩
  · go_ret2
    rw [ifL0]
    exact ⟨_, rfl, by rw [← hl9]; exact hown2, hb2⟩
theorem row_two (w : World) (u v : Value) (t : TypeId) : Row (w.alloc (.cells #[u, v] t)) w.heap.size t [u, v].toArray := Row.new w t #[u, v]
theorem row_one (w : World) (u : Value) (t : TypeId) : Row (w.alloc (.cells #[u] t)) w.heap.size t [u].toArray := Row.new w t #[u]
set_option maxHeartbeats 1000000 in
theorem implJoinBooks_any (u v : Value) (L M : List (Nat → Nat)) (w : World) (hL : ltL L) (hM : ltL M) (h : SlAt eFr w w.heap.size u L) (h2 : SlAt eFr w w.heap.size v M) :
    Calls Try.prog 43 #[u, v] w (GivesL eFr 54 (ifL (joC L M) (joinV L M)) (joC L M) w) := by
  have cV := implValidBook_any u L w hL h
  have cV2 := fun (W : World) (hW : Below w.heap.size w W) => implValidBook_any v M W hM (h2.later hW)
  rcases joC_cases L M with ⟨ho, hc⟩ | ⟨ho, ho2, hc⟩ | ⟨ho, ho2, hn, hc⟩ | ⟨ho, ho2, hn, hc⟩
  · obtain ⟨A, c, rfl⟩ := h.form
    obtain ⟨B, d, rfl⟩ := h2.form
    rw [ho] at cV
    rw [hc, ifL1 _ (by decide)]
    clear ho hc h h2 cV2
    go_enter Try.func43, Try.ntmps43
    go_wp2_with (go_at_call 18; refine cV.mono ?_; rintro e w1 ⟨rfl, hb1⟩)
    go_ret2
    exact ⟨_, rfl, OwnL.nil_ _ _ _, hb1⟩
  all_goals
    obtain ⟨A, c, rfl⟩ := h.form
    obtain ⟨B, d, rfl⟩ := h2.form
    rw [ho] at cV
    rw [ho2] at cV2
    have l1 := okB_len ho
    rw [hc]
    have CV2 := Lib.hid cV2
    clear ho hc cV2
  · rw [ifL1 _ (by decide)]
    clear h h2 ho2
    go_enter Try.func43, Try.ntmps43
    go_wp2_with fail
    refine cV.mono ?_
    rintro e w1 ⟨rfl, hb1⟩
    go_wp2_with fail
    refine (CV2.out _ hb1).mono ?_
    rintro e w2 ⟨rfl, hb2⟩
    go_wp2
    go_ret2
    exact ⟨_, rfl, OwnL.nil_ _ _ _, hb1.trans (hb2.mono hb1.size)⟩
  · rw [ifL1 _ (by decide)]
    have l2 := okB_len ho2
    clear h h2 ho2
    go_enter Try.func43, Try.ntmps43
    go_wp2_with fail
    refine cV.mono ?_
    rintro e w1 ⟨rfl, hb1⟩
    go_wp2_with fail
    refine (CV2.out _ hb1).mono ?_
    rintro e w2 ⟨rfl, hb2⟩
    go_wp2
    go_ret2
    exact ⟨_, rfl, OwnL.nil_ _ _ _, hb1.trans (hb2.mono hb1.size)⟩
  · rw [ifL0]
    have l2 := okB_len ho2
    clear ho2
    go_enter Try.func43, Try.ntmps43
    go_wp2_with fail
    refine cV.mono ?_
    rintro e w1 ⟨rfl, hb1⟩
    go_wp2_with fail
    refine (CV2.out _ hb1).mono ?_
    rintro e w2 ⟨rfl, hb2⟩
    replace hb2 := hb1.trans (hb2.mono hb1.size)
    go_wp2_with fail
    have hb3 := hb2.alloc hb2.size (.cells #[.slice A L.length c, .slice B M.length d] 26)
    have cC := concat_any w2.heap.size [.slice A L.length c, .slice B M.length d] [L, M] (w2.alloc (.cells #[.slice A L.length c, .slice B M.length d] 26)) rfl (row_two _ _ _ _) (fun i a b h3 h4 => by
      match i, h3, h4 with
      | 0, h3, h4 => simp at h3 h4; subst h3; subst h4; exact h.later hb3
      | 1, h3, h4 => simp at h3 h4; subst h3; subst h4; exact h2.later hb3) (by simp; omega) (by simp)
    rw [show [L, M].flatten = L ++ M by simp] at cC
    refine cC.mono ?_
    rintro e w4 ⟨x, rfl, hown, hb4⟩
    go_wp2
    go_ret2
    exact ⟨_, rfl, hown.mono hb3.size, hb3.trans (hb4.mono hb3.size)⟩
theorem cellsFr : Try.prog.cellsOf 54 = eFr.n := by kernel_rfl
def cutV (L : List (Nat → Nat)) (f t : Int) : List (Nat → Nat) := (L.drop f.toNat).take (t.toNat - f.toNat)
def cuC (L : List (Nat → Nat)) (f t : Int) : Int := if okB L then (if inB f 0 L.length && inB t f L.length then 0 else 2) else 1
theorem cuC_cases (L : List (Nat → Nat)) (f t : Int) : (okB L = false ∧ cuC L f t = 1) ∨ (okB L = true ∧ inB f 0 L.length = false ∧ cuC L f t = 2) ∨ (okB L = true ∧ inB f 0 L.length = true ∧ inB t f L.length = false ∧ cuC L f t = 2) ∨ (okB L = true ∧ inB f 0 L.length = true ∧ inB t f L.length = true ∧ cuC L f t = 0) := by
  unfold cuC; cases okB L <;> cases inB f 0 L.length <;> cases inB t f L.length <;> simp
theorem cut_if_len (L : List (Nat → Nat)) (f t : Int) : (ifL (cuC L f t) (cutV L f t)).length ≤ 1000 := by
  refine ifL_len fun hc => ?_
  rcases cuC_cases L f t with ⟨_, h⟩ | ⟨_, _, h⟩ | ⟨_, _, _, h⟩ | ⟨ho, _, _, h⟩
  · omega
  · omega
  · omega
  · unfold cutV
    have := okB_len ho
    rw [List.length_take, List.length_drop]
    omega
/-- A slice of a list, cut. -/
theorem SlAt.part {α : Type} {E : Enc α} {w : World} {B : Nat} {A : Option Addr} {c : Nat} {L : List α} (h : SlAt E w B (.slice A L.length c) L) {f t m : Nat} (hft : f ≤ t) (ht : t ≤ L.length) (htm : t ≤ m) (hm : m ≤ c) :
    SlAt E w B (.slice (if m = f then A else A.map (·.add (f * E.n))) (t - f) (m - f)) ((L.drop f).take (t - f)) := by
  obtain ⟨A', c', he, h1, h2, hA⟩ := h
  cases he
  have hl : ((L.drop f).take (t - f)).length = t - f := by rw [List.length_take, List.length_drop]; omega
  refine ⟨_, _, by rw [hl], by omega, by omega, fun hp => ?_⟩
  obtain ⟨b, o, rfl, hb, hr⟩ := hA (by omega)
  rw [if_neg (by omega)]
  refine ⟨b, o + f * E.n, ?_, hb, fun j u hu => ?_⟩
  · rw [Option.map_some, Addr.add_mid]
  · have hj : j < (t - f) * E.n := by
      have := (List.getElem?_eq_some_iff.1 hu).1
      rwa [Enc.cells_length, hl] at this
    rw [← Enc.cells_take, List.getElem?_take, if_pos hj, ← Enc.cells_drop, List.getElem?_drop] at hu
    have := hr (f * E.n + j) u hu
    rwa [← Nat.add_assoc] at this
set_option maxHeartbeats 1000000 in
theorem specCutBook_any (v : Value) (L : List (Nat → Nat)) (f t : Int) (w : World) (h : SlAt eFr w w.heap.size v L) :
    Calls Try.prog 44 #[v, .int .i64 f, .int .i64 t] w (GivesL eFr 54 (ifL (cuC L f t) (cutV L f t)) (cuC L f t) w) := by
  have cO := specOk_any v L w h
  have hml := h.len
  unfold maxLen at hml
  have hm := OwnL.made (E := eFr) w w.heap.size 54 (Nat.le_refl _)
  have h0 := (Below.refl w.heap.size w).alloc (Nat.le_refl _) (.cells #[] 54)
  rcases cuC_cases L f t with ⟨ho, hc⟩ | ⟨ho, hi1, hc⟩ | ⟨ho, hi1, hi2, hc⟩ | ⟨ho, hi1, hi2, hc⟩
  · obtain ⟨A, c, rfl⟩ := h.form
    rw [ho] at cO
    rw [hc, ifL1 _ (by decide)]
    clear ho hc h
    go_enter Try.func44, Try.ntmps44
    go_wp2_with (first | (go_at_call 57; refine cO.mono ?_; rintro e w' ⟨rfl, rfl⟩) | (go_at_call 76; refine (in_any _ _ _ _).mono ?_; rintro e w' ⟨rfl, rfl⟩))
    go_ret2
    exact ⟨_, rfl, hm, h0⟩
  · obtain ⟨A, c, rfl⟩ := h.form
    rw [ho] at cO
    rw [hc, ifL1 _ (by decide)]
    clear ho hc h
    go_enter Try.func44, Try.ntmps44
    go_wp2_with (first | (go_at_call 57; refine cO.mono ?_; rintro e w' ⟨rfl, rfl⟩) | (go_at_call 76; refine (in_any _ _ _ _).mono ?_; rintro e w' ⟨rfl, rfl⟩))
    go_ret2
    exact ⟨_, rfl, hm, h0⟩
  · obtain ⟨A, c, rfl⟩ := h.form
    rw [ho] at cO
    rw [hc, ifL1 _ (by decide)]
    clear ho hc h
    go_enter Try.func44, Try.ntmps44
    go_wp2_with (first | (go_at_call 57; refine cO.mono ?_; rintro e w' ⟨rfl, rfl⟩) | (go_at_call 76; refine (in_any _ _ _ _).mono ?_; rintro e w' ⟨rfl, rfl⟩))
    go_ret2
    exact ⟨_, rfl, hm, h0⟩
  · rw [ho] at cO
    rw [hc, ifL0]
    have hlen := okB_len ho
    have a1 := inB_iff.1 hi1
    have a2 := inB_iff.1 hi2
    unfold cutV
    obtain ⟨f, rfl⟩ := Int.eq_ofNat_of_zero_le a1.1
    obtain ⟨t, rfl⟩ := Int.eq_ofNat_of_zero_le (show 0 ≤ t by omega)
    rw [Int.toNat_natCast, Int.toNat_natCast]
    obtain ⟨A, c, rfl, h1, h2, _⟩ := id h
    have hft : f ≤ t := by omega
    have htl : t ≤ L.length := by omega
    have htc : t ≤ c := by omega
    have sp := (h.part hft htl (m := c) (by omega) (Nat.le_refl _)).alloc (Nat.le_refl _) (.cells #[] 54)
    have q1 : ∀ W, (Instr.slice 26 (.slice A L.length c) (some (.int .i64 (f : Int))) (some (.int .i64 (t : Int))) none).run Try.prog W = .ok (.slice (if c = f then A else A.map (·.add (f * eFr.n))) (t - f) (c - f)) W := fun W => by
      obtain ⟨i0, hi, hz0, hz1, hz2⟩ := info_parts infoFrL
      have e1 : (0 : Int) ≤ (t : Int) ∧ (t : Int) ≤ (c : Int) := by omega
      have e2 : (0 : Int) ≤ (f : Int) ∧ (f : Int) ≤ (t : Int) := by omega
      simp only [Instr.slice, run_underlying Try.underlying26, Sem.run_bind, Result.andThen_ok, Instr.sliceBounds, Instr.sliceBound, asIntOf, Sem.run_pure, if_pos e1, if_pos e2, Int.toNat_natCast, run_sizeOf W hi, cellsFr]
    have hl9 : ((L.drop f).take (t - f)).length ≤ 40 := by rw [List.length_take, List.length_drop]; omega
    generalize (if c = f then A else A.map (·.add (f * eFr.n))) = A2 at *
    generalize (L.drop f).take (t - f) = R at *
    clear ho hc a1 a2 h
    go_enter Try.func44, Try.ntmps44
    go_wp2_with (first | (go_at_call 57; refine cO.mono ?_; rintro e w' ⟨rfl, rfl⟩) | (go_at_call 76; refine (in_any _ _ _ _).mono ?_; rintro e w' ⟨rfl, rfl⟩) | (at_builtin; refine wpList_append_sl rfl _ _ 26 rfl w.heap.size 54 Try.underlying26 infoFrL rfl (by decide) (by omega) hm rfl rfl sp (by simp; omega) (by simp) ?_; intro v1 w1 hown hgrow))
    go_ret2
    rw [List.nil_append] at hown
    exact ⟨_, rfl, hown, hm.grown_below h0 hgrow (Nat.le_refl _) (by simp)⟩
set_option maxHeartbeats 1000000 in
theorem implCutBook_any (v : Value) (L : List (Nat → Nat)) (f t : Int) (w : World) (hL : ltL L) (h : SlAt eFr w w.heap.size v L) :
    Calls Try.prog 45 #[v, .int .i64 f, .int .i64 t] w (GivesL eFr 54 (ifL (cuC L f t) (cutV L f t)) (cuC L f t) w) := by
  have cV := implValidBook_any v L w hL h
  have hml := h.len
  unfold maxLen at hml
  rcases cuC_cases L f t with ⟨ho, hc⟩ | ⟨ho, hi1, hc⟩ | ⟨ho, hi1, hi2, hc⟩ | ⟨ho, hi1, hi2, hc⟩
  · obtain ⟨A, c, rfl⟩ := h.form
    rw [ho] at cV
    rw [hc, ifL1 _ (by decide)]
    clear ho hc h
    go_enter Try.func45, Try.ntmps45
    go_wp2_with (go_at_call 18; refine cV.mono ?_; rintro e w1 ⟨rfl, hb1⟩)
    go_ret2
    exact ⟨_, rfl, OwnL.nil_ _ _ _, hb1⟩
  · obtain ⟨A, c, rfl⟩ := h.form
    rw [ho] at cV
    rw [hc, ifL1 _ (by decide)]
    have a1 := inB_false.1 hi1
    clear ho hc h hi1
    by_cases e1 : f < 0
    · clear a1
      go_enter Try.func45, Try.ntmps45
      go_wp2_with (go_at_call 18; refine cV.mono ?_; rintro e w1 ⟨rfl, hb1⟩)
      go_ret2
      exact ⟨_, rfl, OwnL.nil_ _ _ _, hb1⟩
    · have e2 : (L.length : Int) < f := by omega
      have e3 : 0 ≤ f := by omega
      clear a1 e1
      by_cases e4 : t < f
      · go_enter Try.func45, Try.ntmps45
        go_wp2_with (go_at_call 18; refine cV.mono ?_; rintro e w1 ⟨rfl, hb1⟩)
        go_ret2
        exact ⟨_, rfl, OwnL.nil_ _ _ _, hb1⟩
      · have e5 : (L.length : Int) < t := by omega
        have e6 : f ≤ t := by omega
        clear e4
        go_enter Try.func45, Try.ntmps45
        go_wp2_with (go_at_call 18; refine cV.mono ?_; rintro e w1 ⟨rfl, hb1⟩)
        go_ret2
        exact ⟨_, rfl, OwnL.nil_ _ _ _, hb1⟩
  · obtain ⟨A, c, rfl⟩ := h.form
    rw [ho] at cV
    rw [hc, ifL1 _ (by decide)]
    have a1 := inB_iff.1 hi1
    have a2 := inB_false.1 hi2
    have e3 : 0 ≤ f := a1.1
    clear ho hc h hi1 hi2
    by_cases e4 : t < f
    · clear a1 a2
      go_enter Try.func45, Try.ntmps45
      go_wp2_with (go_at_call 18; refine cV.mono ?_; rintro e w1 ⟨rfl, hb1⟩)
      go_ret2
      exact ⟨_, rfl, OwnL.nil_ _ _ _, hb1⟩
    · have e5 : (L.length : Int) < t := by omega
      have e6 : f ≤ t := by omega
      clear a1 a2 e4
      go_enter Try.func45, Try.ntmps45
      go_wp2_with (go_at_call 18; refine cV.mono ?_; rintro e w1 ⟨rfl, hb1⟩)
      go_ret2
      exact ⟨_, rfl, OwnL.nil_ _ _ _, hb1⟩
  · rw [ho] at cV
    rw [hc, ifL0]
    have hlen := okB_len ho
    have a1 := inB_iff.1 hi1
    have a2 := inB_iff.1 hi2
    unfold cutV
    obtain ⟨f, rfl⟩ := Int.eq_ofNat_of_zero_le a1.1
    obtain ⟨t, rfl⟩ := Int.eq_ofNat_of_zero_le (show 0 ≤ t by omega)
    rw [Int.toNat_natCast, Int.toNat_natCast]
    obtain ⟨A, c, rfl, h1, h2, _⟩ := id h
    have hft : f ≤ t := by omega
    have htl : t ≤ L.length := by omega
    have htc : t ≤ c := by omega
    have sp := h.part hft htl (m := t) (Nat.le_refl _) htc
    have q1 : ∀ W, (Instr.slice 26 (.slice A L.length c) (some (.int .i64 (f : Int))) (some (.int .i64 (t : Int))) (some (.int .i64 (t : Int)))).run Try.prog W = .ok (.slice (if t = f then A else A.map (·.add (f * eFr.n))) (t - f) (t - f)) W := fun W => by
      obtain ⟨i0, hi, hz0, hz1, hz2⟩ := info_parts infoFrL
      have e1 : (0 : Int) ≤ (t : Int) ∧ (t : Int) ≤ (c : Int) := by omega
      have e2 : (0 : Int) ≤ (f : Int) ∧ (f : Int) ≤ (t : Int) := by omega
      have e3 : (0 : Int) ≤ (t : Int) ∧ (t : Int) ≤ (t : Int) := by omega
      simp only [Instr.slice, run_underlying Try.underlying26, Sem.run_bind, Result.andThen_ok, Instr.sliceBounds, Instr.sliceBound, asIntOf, Sem.run_pure, if_pos e1, if_pos e2, if_pos e3, Int.toNat_natCast, run_sizeOf W hi, cellsFr]
    have hl9 : ((L.drop f).take (t - f)).length ≤ 40 := by rw [List.length_take, List.length_drop]; omega
    generalize (if t = f then A else A.map (·.add (f * eFr.n))) = A2 at *
    generalize (L.drop f).take (t - f) = R at *
    have e1 : decide ((f : Int) < 0) = false := decide_eq_false (by omega)
    have e2 : decide (t < f) = false := decide_eq_false (by omega)
    have e3 : decide (L.length < t) = false := decide_eq_false (by omega)
    clear ho hc a1 a2 h hi1 hi2
    go_enter Try.func45, Try.ntmps45
    go_wp2_with (go_at_call 18; refine cV.mono ?_; rintro e w1 ⟨rfl, hb1⟩)
    have hb3 := hb1.alloc hb1.size (.cells #[.slice A2 (t - f) (t - f)] 26)
    have cC := concat_any w1.heap.size [.slice A2 (t - f) (t - f)] [R] (w1.alloc (.cells #[.slice A2 (t - f) (t - f)] 26)) rfl (row_one _ _ _) (fun i a b h3 h4 => by
      match i, h3, h4 with
      | 0, h3, h4 => simp at h3 h4; subst h3; subst h4; exact SlAt.later sp hb3) (by simp; omega) (by simp)
    rw [show [R].flatten = R by simp] at cC
    refine cC.mono ?_
    rintro e w4 ⟨x, rfl, hown, hb4⟩
    go_wp2
    go_ret2
    exact ⟨_, rfl, hown.mono hb3.size, hb3.trans (hb4.mono hb3.size)⟩
end Go.Proofs.Ythkpefdjhdemeab
