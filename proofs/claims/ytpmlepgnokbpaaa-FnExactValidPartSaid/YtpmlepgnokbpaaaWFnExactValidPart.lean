import Derived.Test.YtpmlepgnokbpaaaRows
import Derived.Test.YtpmlepgnokbpaaaM5
import Derived.Test.YtpmlepgnokbpaaaM20
import Derived.Test.YtpmlepgnokbpaaaM18
import Derived.Test.YtpmlepgnokbpaaaM19
/- The walk of the law FnExactValidPart: it returns true and writes nothing that was there. -/
namespace Go.Proofs.Ytpmlepgnokbpaaa.wFnExactValidPart
set_option maxRecDepth 100000
open Go.RowKit
set_option linter.unusedVariables false
set_option linter.unusedSimpArgs false
set_option maxHeartbeats 2000000 in
theorem walk (f : Nat → Nat) (x : Int) (vt : Value) (Lt : List (Int × Int × Int)) (hf : ∀ y, f y < 65536) (hx : -128 ≤ x ∧ x ≤ 127) (hLt : ltK Lt) (w : World) (st : SlAt eKy w w.heap.size vt Lt) :
    Calls Try.prog 14 #[.agg (PC f x vt)] w fun e w' => e = .returned (.bool true) ∧ Below w.heap.size w w' := by
  obtain ⟨At, ct, het⟩ := st.form
  subst het
  have hm := st.len
  have a1 := PartAt.new w 70 f x (.slice At Lt.length ct)
  have h0 := (Below.refl w.heap.size w).alloc (Nat.le_refl _) (.cells (PC f x (.slice At Lt.length ct)) 70)
  by_cases hz : Lt.length ≤ 1000000
  case neg =>
    have cZ := fun w => szPart_any f x At Lt.length ct w hm
    rw [if_neg (by omega)] at cZ
    go_enter Try.func14, Try.ntmps14
    go_wp2_with (first | (refine wpList_load_part rfl 70 _ rfl rfl (by with_reducible exact a1) Try.underlying70 rfl (by kernel_rfl) ?_) | (go_at_call 48; refine (cZ _).mono ?_; rintro e w' ⟨rfl, hb⟩; replace h0 := grown_below h0 hb h0.size))
    go_ret
    exact ⟨rfl, h0⟩
  have cZ := fun w => szPart_any f x At Lt.length ct w hm
  rw [if_pos (by omega)] at cZ
  have qt : 0 ≤ 1000000 - (Lt.length : Int) := by omega
  generalize 1000000 - (Lt.length : Int) = zz at cZ qt
  have d0 : decide (zz < 0) = false := decide_eq_false (by omega)
  have cT := fun b w' (hb : Below w.heap.size w w') => toPart_any f x _ Lt b w' hz (st.later hb)
  go_enter Try.func14, Try.ntmps14
  go_wp2_with (first | (refine wpList_load_part rfl 70 _ rfl rfl (by with_reducible exact a1) Try.underlying70 rfl (by kernel_rfl) ?_) | (go_at_call 48; refine (cZ _).mono ?_; rintro e w' ⟨rfl, hb⟩; replace a1 := a1.below hb a1.lt; replace h0 := grown_below h0 hb h0.size; clear hb cZ))
  refine (cT _ _ h0).mono ?_
  rintro e w1 ⟨u1, rfl, T1, hb⟩
  replace a1 := a1.below hb a1.lt
  replace h0 := grown_below h0 hb h0.size
  clear hb
  go_wp2_with fail
  refine (specValidPart_any f x hx _ Lt _ hLt (T1.sl hz)).mono ?_
  rintro e w2 ⟨rfl, hb⟩
  replace a1 := a1.below hb a1.lt
  replace h0 := grown_below h0 hb h0.size
  clear hb T1
  generalize hB : okP f x Lt = B
  go_wp2_with (refine wpList_load_part rfl 70 _ rfl rfl (by with_reducible exact a1) Try.underlying70 rfl (by kernel_rfl) ?_)
  refine (cT _ _ h0).mono ?_
  rintro e w3 ⟨u2, rfl, T2, hb⟩
  replace a1 := a1.below hb a1.lt
  have z3 := h0.size
  replace h0 := grown_below h0 hb h0.size
  clear hb
  obtain ⟨hb0, _, _⟩ | ⟨g2, rfl, hg2, H2⟩ := T2
  · exact absurd hb0 (by decide)
  have zg := H2.lt
  replace zg2 := Nat.le_trans z3 hg2
  have bn := PartAt.new w3 76 zeroF 0 (.slice none 0 0)
  have h1 := h0.alloc h0.size (.cells (PC zeroF 0 (.slice none 0 0)) 76)
  have a2 := a1.alloc (.cells (PC zeroF 0 (.slice none 0 0)) 76)
  have H3 := H2.alloc (.cells (PC zeroF 0 (.slice none 0 0)) 76)
  have ng : w.heap.size ≠ w3.heap.size := by have := a1.lt; omega
  have hs3 := h0.size
  rw [PC_zero] at bn h1 a2 H3
  clear a1 h0 H2
  go_wp2_with (first
    | (refine wpList_store_part rfl 76 _ _ rfl (by with_reducible exact bn) rfl rfl rfl (by kernel_rfl) ?_; intro bn2; replace h1 := below_setRow h1 hs3 (PC f x (.slice (some ⟨g2, 0, none⟩) Lt.length (Lt.length + roomN Lt.length))); replace a2 := a2.setRowOther (PC f x (.slice (some ⟨g2, 0, none⟩) Lt.length (Lt.length + roomN Lt.length))) ng; replace H3 := H3.setRowOther (PC f x (.slice (some ⟨g2, 0, none⟩) Lt.length (Lt.length + roomN Lt.length))) (Nat.ne_of_lt zg); clear bn; generalize World.setRow _ _ _ = w4 at *; have H4 : Held eKy w4 g2 141 (roomy fillK Lt) := H3; clear H3; have H3 := H4; clear H4)
    | (refine wpList_load_part rfl 76 _ rfl rfl (by with_reducible exact bn2) Try.underlying76 rfl (by kernel_rfl) ?_))
  refine (implValidPart_any f hf x hx _ Lt _ hLt ((H3.sl (n := Lt.length) (c := Lt.length + roomN Lt.length) (by rw [roomy_length]; omega) (by omega) (by have := roomN_le Lt.length; unfold maxLen; omega)).roomy)).mono ?_
  rintro e w5 ⟨rfl, hb⟩
  rw [hB]
  replace a2 := a2.below hb a2.lt
  replace bn2 := bn2.below hb bn2.lt
  replace H3 : Held eKy w5 g2 141 (roomy fillK Lt) := H3.below hb H3.lt
  replace h1 := grown_below h1 hb h1.size
  clear hb
  have zb := bn2.lt
  generalize w3.heap.size = gn at *
  have dB : (B != B) = false := by cases B <;> rfl
  go_wp2_with fail
  refine' wp_cut_blk _ (fun g w' => Below w5.heap.size w5 w') ?hw0 ?kw0
  case' hw0 =>
    refine wp_region_held_drew (S := fun w' => Below w5.heap.size w5 w') (by kernel_rfl) (below_drew_refl w5) (fun hS => ?_)
    generalize w5.drew = v0 at hS ⊢
    refine held_take (i := 0) rfl (by kernel_rfl) (by kernel_rfl) (by kernel_rfl) (fun _ _ _ h => nomatch h.1) (yieldsIf_load_row rfl 76 _ rfl _ rfl (fun w' h => bn2.below h bn2.lt) Try.underlying76 rfl (by kernel_rfl)) hS ?_
    try simp only [Act.put, List.setIfInBounds_toArray, List.set_cons_zero, List.set_cons_succ]
    refine held_take (i := 1) rfl (by kernel_rfl) (by kernel_rfl) (by kernel_rfl) (fun _ _ _ h => nomatch h.1) (yieldsIf_load_row rfl 70 _ rfl _ rfl (fun w' h => a2.below h a2.lt) Try.underlying70 rfl (by kernel_rfl)) hS ?_
    try simp only [Act.put, List.setIfInBounds_toArray, List.set_cons_zero, List.set_cons_succ]
    refine wpAnyH_ready (rs := [2]) (by kernel_rfl) (by simp) ?_
    refine held_cons rfl (fun K hK => ?_) AllReadyH.nil
    go_simp
    go_at_call 50
    refine (cT _ _ (grown_below h1 hS h1.size)).mono ?_
    rintro e v1 ⟨u3, rfl, T3, hb1⟩
    have zs := hS.size
    refine hK.out _ _ (grown_below hS hb1 hS.size) (fun hS' => ?_)
    clear hK K
    obtain ⟨hb0, _, _⟩ | ⟨g3, rfl, hg3, Hg3⟩ := T3
    · exact absurd hb0 (by decide)
    have H3' : Held eKy v1 g2 141 (roomy fillK Lt) := H3.below hS' H3.lt
    clear hS hb1 zs hg3; have hS := hS'; clear hS'; clear v0
    try simp only [Act.put, List.setIfInBounds_toArray, List.set_cons_zero, List.set_cons_succ]
    refine wpAnyH_ready (rs := [3]) (by kernel_rfl) (by simp) ?_
    refine held_cons rfl (fun K hK => ?_) AllReadyH.nil
    go_simp
    go_at_call 52
    refine (intactPart_any g2 g3 f x Lt _ hz H3' Hg3).mono ?_
    rintro e v2 ⟨rfl, hb1⟩
    refine hK.out _ _ (grown_below hS hb1 hS.size) (fun hS' => ?_)
    clear hK K hS hb1 H3' Hg3; have hS := hS'; clear hS'
    try simp only [Act.put, List.setIfInBounds_toArray, List.set_cons_zero, List.set_cons_succ]
    refine held_take (i := 4) (v := ?_) rfl (by kernel_rfl) (by kernel_rfl) (by kernel_rfl) (fun _ _ _ h => nomatch h.1) (Or.inl ⟨by rfl, ?_⟩) hS ?_
    rotate_left
    · intro w hSw; go_simp; (try with_reducible rfl)
    try simp only [Act.put, List.setIfInBounds_toArray, List.set_cons_zero, List.set_cons_succ]
    refine wpAnyH_done (by kernel_rfl) ⟨rfl, g3, ?_, hS⟩ _
    exact rfl
  case kw0 =>
  intro g3 w6 hb
  replace a2 := a2.below hb a2.lt
  replace h1 := grown_below h1 hb h1.size
  clear hb bn2 H3
  go_wp2_with (refine wpList_load_part rfl 70 _ rfl rfl (by with_reducible exact a2) Try.underlying70 rfl (by kernel_rfl) ?_)
  refine (cT _ _ h1).mono ?_
  rintro e w7 ⟨u4, rfl, T4, hb⟩
  replace h1 := grown_below h1 hb h1.size
  clear hb a2
  go_wp2_with fail
  refine (implValidPart_any f hf x hx _ Lt _ hLt (T4.sl hz)).mono ?_
  rintro e w8 ⟨rfl, hb⟩
  rw [hB]
  replace h1 := grown_below h1 hb h1.size
  clear hb T4
  go_wp2
  go_ret
  exact ⟨rfl, h1⟩
end Go.Proofs.Ytpmlepgnokbpaaa.wFnExactValidPart
