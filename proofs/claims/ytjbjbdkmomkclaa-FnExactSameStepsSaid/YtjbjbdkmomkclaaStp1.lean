/- STEPS: the laws' own helpers over one step and over lists of steps: szStep, szStepS, toStep, fillerStep, toStepS. -/
import Derived.Test.YtjbjbdkmomkclaaStp0
import Derived.Test.YtjbjbdkmomkclaaLChg
namespace Go.Proofs.Ytjbjbdkmomkclaa
set_option maxRecDepth 100000
open Go.RowKit
set_option linter.unusedVariables false
set_option linter.unusedSimpArgs false
set_option maxHeartbeats 1000000 in
theorem szStep_any (h : Hd) (A : Option Addr) (n c : Nat) (left : Int) (w : World) (hn : n ≤ maxLen) (l0 : 0 ≤ left) (l1 : left ≤ 1000000) :
    Calls Try.prog 40 #[.agg (StC h (.slice A n c)), .int .i64 left] w fun e w' => e = .returned (.int .i64 (if (n : Int) ≤ left then left - (n : Int) else -1)) ∧ Below w.heap.size w w' := by
  have a1 := Row.new w 67 (StC h (.slice A n c))
  have h0 := (Below.refl w.heap.size w).alloc (Nat.le_refl _) (.cells (StC h (.slice A n c)) 67)
  have c1 : (w.alloc (.cells (StC h (.slice A n c)) 67)).cell? ⟨w.heap.size, 4, none⟩ = some (.slice A n c) := Row.cell a1 4
  have cS := fun w' => szChangeS_from A n c left w' hn l0 l1
  by_cases hl : (n : Int) ≤ left
  · rw [if_pos hl] at cS ⊢
    have d : decide (left - (n : Int) < 0) = false := decide_eq_false (by omega)
    generalize left - (n : Int) = z at *
    clear hl
    go_enter Try.func40, Try.ntmps40
    go_wp2_with (go_at_call 78; refine (cS _).mono ?_; rintro e w' ⟨rfl, rfl⟩)
    go_ret
    exact ⟨rfl, h0⟩
  · rw [if_neg hl] at cS ⊢
    clear hl
    go_enter Try.func40, Try.ntmps40
    go_wp2_with (go_at_call 78; refine (cS _).mono ?_; rintro e w' ⟨rfl, rfl⟩)
    go_ret
    exact ⟨rfl, h0⟩
set_option maxHeartbeats 2000000 in
theorem szStepS_any (v : Value) (L : List Stp) (left : Int) (w : World) (l0 : 0 ≤ left) (l1 : left ≤ 1000000) (h : StsAt w w.heap.size v L) :
    Calls Try.prog 10 #[v, .int .i64 left] w fun e w' => e = .returned (.int .i64 (szR L left)) ∧ Below w.heap.size w w' := by
  obtain ⟨A, c, rfl, h1, h2, hA⟩ := h
  unfold maxLen at h2
  have hw : IntKind.i64.wrap (left - (L.length : Int)) = left - (L.length : Int) := IntWalk.i64_in _ (by omega)
  by_cases hl : (L.length : Int) ≤ left
  · have d0 : decide (left - (L.length : Int) < 0) = false := decide_eq_false (by omega)
    go_enter Try.func10, Try.ntmps10
    go_wp2
    go_loopw [1, 5] (fun kk i wr => ∃ k : Nat, k ≤ L.length ∧ i = .int .i64 k ∧ kk = .int .i64 (left - (L.length : Int) - (rowsN L k : Int)) ∧ 0 ≤ left - (L.length : Int) - (rowsN L k : Int) ∧ Below w.heap.size w wr) (fun _ i _ => L.length - (intOf i).toNat)
    case atStart => exact ⟨0, by omega, rfl, by simp [rowsN], by simp [rowsN]; omega, Below.refl _ _⟩
    case round =>
      obtain ⟨k, hk, rfl, rfl, hp, hb⟩ := hrel
      by_cases hlt : k < L.length
      · obtain ⟨b, o, rfl, hb1, hE⟩ := hA (by omega)
        obtain ⟨z, r, s⟩ := hE k hlt
        have hrow := s.len
        obtain ⟨A2, c2, rfl⟩ := s.form
        have g1 := range_below r hb hb1
        have hs1 : rowsN L (k + 1) = rowsN L k + (tAt L k).2.length := rfl
        have hs2 : rowsN L (k + 1) ≤ rowsN L L.length := rowsN_mono L hlt
        have cS := fun w' => szStep_any (tAt L k).1 A2 (tAt L k).2.length c2 (left - (L.length : Int) - (rowsN L k : Int)) w' hrow hp (by omega)
        by_cases hr : ((tAt L k).2.length : Int) ≤ left - (L.length : Int) - (rowsN L k : Int)
        · rw [if_pos hr] at cS
          have e1 : left - (L.length : Int) - (rowsN L k : Int) - ((tAt L k).2.length : Int) = left - (L.length : Int) - (rowsN L (k + 1) : Int) := by omega
          rw [e1] at cS
          have hp2 : 0 ≤ left - (L.length : Int) - (rowsN L (k + 1) : Int) := by omega
          have d1 : decide (left - (L.length : Int) - (rowsN L (k + 1) : Int) < 0) = false := decide_eq_false (by omega)
          have E1 := Lib.hid e1
          clear hA hE s r hs1 hs2 hr e1 hw d0
          generalize hz2 : left - (L.length : Int) - (rowsN L (k + 1) : Int) = z2 at *
          have HZ2 := Lib.hid hz2
          clear hz2
          generalize left - (L.length : Int) - (rowsN L k : Int) = z1 at *
          go_wp2_with (first | (refine wpList_load_el (E := eSt) rfl 67 _ rfl _ _ rfl ((tAt L k).1, A2, (tAt L k).2.length, c2) (StC (tAt L k).1 (.slice A2 (tAt L k).2.length c2)) rfl g1 Try.underlying67 rfl (by kernel_rfl) ?_) | (go_at_call 40; refine (cS _).mono ?_; rintro e w2 ⟨rfl, hb2⟩; replace hb := grown_below hb hb2 hb.size; clear hb2 cS g1))
          go_roundw
          case rel =>
            go_light
            exact ⟨k + 1, by omega, by go_num, by rw [HZ2.out], by rw [HZ2.out]; exact hp2, hb⟩
          case measure => simp [intOf]; omega
        · rw [if_neg hr] at cS
          have hv : szR L left = -1 := if_neg (by unfold szN; omega)
          have HV := Lib.hid hv
          clear hA hE s r hs1 hs2 hr hw d0 hv
          generalize left - (L.length : Int) - (rowsN L k : Int) = z1 at *
          go_wp2_with (first | (refine wpList_load_el (E := eSt) rfl 67 _ rfl _ _ rfl ((tAt L k).1, A2, (tAt L k).2.length, c2) (StC (tAt L k).1 (.slice A2 (tAt L k).2.length c2)) rfl g1 Try.underlying67 rfl (by kernel_rfl) ?_) | (go_at_call 40; refine (cS _).mono ?_; rintro e w2 ⟨rfl, hb2⟩; replace hb := grown_below hb hb2 hb.size; clear hb2 cS g1))
          go_ret
          exact ⟨ret_int HV.out.symm, hb⟩
      · have hkl : k = L.length := by omega
        subst hkl
        have hv : szR L left = left - (L.length : Int) - (rowsN L L.length : Int) := by unfold szR szN; rw [if_pos (by omega)]; omega
        have HV := Lib.hid hv
        clear hA hv
        go_wp2
        go_ret
        exact ⟨ret_int HV.out.symm, hb⟩
  · have hv : szR L left = -1 := if_neg (by have := szN_len L; omega)
    rw [hv]
    have d0 : decide (left - (L.length : Int) < 0) = true := decide_eq_true (by omega)
    clear hA hv hl
    go_enter Try.func10, Try.ntmps10
    go_wp2
    go_ret
    exact ⟨rfl, Below.refl _ _⟩
theorem toChangeS_given (v : Value) (L : List (Int × Int)) (b : Bool) (w : World) (hL : L.length ≤ 1000000) (h : SlAt eCg w w.heap.size v L) :
    Calls Try.prog 80 #[v, .bool b] w fun e w' => ∃ v', e = .returned v' ∧ CgGiven L b w.heap.size v' w' ∧ Below w.heap.size w w' := by
  by_cases hb : b = false ∨ 0 < L.length
  · refine (toChangeS_any v L b w hL h hb).mono ?_
    rintro e w' ⟨g, rfl, hg, hh, hb'⟩
    exact ⟨_, rfl, .inr ⟨g, rfl, hg, hh⟩, hb'⟩
  · have h0 : L.length = 0 := by omega
    have hbt : b = true := by cases b <;> simp_all
    subst hbt
    refine (toChangeS_bare v L w h h0).mono ?_
    rintro e w' ⟨rfl, rfl⟩
    exact ⟨_, rfl, .inl ⟨rfl, rfl, h0⟩, Below.refl _ _⟩
set_option maxHeartbeats 1000000 in
theorem toStep_any (h : Hd) (v : Value) (L : List (Int × Int)) (b : Bool) (w : World) (hL : L.length ≤ 1000000) (hs : SlAt eCg w w.heap.size v L) :
    Calls Try.prog 43 #[.agg (StC h v), .bool b] w fun e w' => ∃ v', e = .returned (.agg (StC h v')) ∧ CgGiven L b w.heap.size v' w' ∧ Below w.heap.size w w' := by
  obtain ⟨A, c, rfl⟩ := hs.form
  have a2 := (Row.new (w.alloc (.cells (StC h (.slice A L.length c)) 67)) 71 (StC zeroHd (.slice none 0 0))).alloc (.cells (StC h (.slice none 0 0)) 71)
  have a3 := Row.new ((w.alloc (.cells (StC h (.slice A L.length c)) 67)).alloc (.cells (StC zeroHd (.slice none 0 0)) 71)) 71 (StC h (.slice none 0 0))
  rw [World.size_alloc] at a2
  rw [World.size_alloc, World.size_alloc] at a3
  have h0 := (((Below.refl w.heap.size w).alloc (Nat.le_refl _) (.cells (StC h (.slice A L.length c)) 67)).alloc (by simp) (.cells (StC zeroHd (.slice none 0 0)) 71)).alloc (by simp; omega) (.cells (StC h (.slice none 0 0)) 71)
  have cT := fun w' (hb : Below w.heap.size w w') => toChangeS_given _ L b w' hL (hs.later hb)
  obtain ⟨p, q, r, s⟩ := h
  clear hs
  go_enter Try.func43, Try.ntmps43
  unfold StC at a2 a3 h0 ⊢
  unfold zeroHd at a2 a3 h0
  go_wp2_with (first
    | (go_at_call 80; refine (cT _ h0).mono ?_; have z3 := Row.lt a3; rintro e w4 ⟨u, rfl, hT, hb⟩; have hu := hT.slice; rcases hu with ⟨A2, n2, c2', rfl⟩; replace a2 := Row.below a2 hb (Row.lt a2); replace a3 := Row.below a3 hb (Row.lt a3); replace h0 := grown_below h0 hb h0.size; clear hb cT; have d2 := Row.cell a3 4; have f2 := Row.free a3 4; have a4 : Row (w4.setCell ⟨w.heap.size + 1 + 1, 4, none⟩ (.slice A2 n2 c2')) (w.heap.size + 1 + 1) 71 (StC (p, q, r, s) (.slice A2 n2 c2')) := Row.set a3 4 (.slice A2 n2 c2'); have a5 := Row.other a2 (a := ⟨w.heap.size + 1 + 1, 4, none⟩) (.slice A2 n2 c2') (by show w.heap.size + 1 ≠ w.heap.size + 1 + 1; omega); replace h0 := h0.setCell (p := ⟨w.heap.size + 1 + 1, 4, none⟩) (by show w.heap.size ≤ w.heap.size + 1 + 1; omega) (.slice A2 n2 c2'); replace hT := hT.wrote (Wrote.setCell (Wrote.refl (w.heap.size + 1 + 1) w4) (p := ⟨w.heap.size + 1 + 1, 4, none⟩) rfl (.slice A2 n2 c2')) z3; clear a2 a3)
    | (refine wpList_load_row rfl 71 _ rfl _ rfl _ _ (0, 0) _ a4 Try.underlying71 rfl (by kernel_rfl) ?_)
    | (refine wpList_store_row rfl 71 _ _ rfl _ rfl a5 rfl rfl (StC_one (p, q, r, s) (.slice A2 n2 c2') rfl) (by kernel_rfl) ?_))
  refine bodyPost_ret_row (p := 4) (ty := 71) rfl rfl (Row.setRow a5 (StC (p, q, r, s) (.slice A2 n2 c2'))) Try.underlying71 rfl (by kernel_rfl) rfl ⟨_, rfl, ?_, below_setRow h0 (by omega) _⟩
  rcases hT with hT | ⟨g, hv, hg, hh⟩
  · exact .inl hT
  · exact .inr ⟨g, hv, by omega, hh.setRowOther _ (by omega)⟩
end Go.Proofs.Ytjbjbdkmomkclaa
