/- STEPS: the laws' own helpers: fillerStep, toStepS. -/
import Derived.Test.YtjbjbdkmomkclaaStp1
namespace Go.Proofs.Ytjbjbdkmomkclaa
set_option maxRecDepth 100000
open Go.RowKit
set_option linter.unusedVariables false
set_option linter.unusedSimpArgs false
theorem rAt_set_self {R : List Raw} {i : Nat} (h : i < R.length) (x : Raw) : rAt (R.set i x) i = x := by
  simp [rAt, List.getD_eq_getElem?_getD, h]
theorem rAt_set_ne {R : List Raw} {i j : Nat} (h : i ≠ j) (x : Raw) : rAt (R.set i x) j = rAt R j := by
  simp [rAt, List.getD_eq_getElem?_getD, List.getElem?_set_ne h]
theorem run_build1Cg (w : World) : (Instr.buildSlice 69 1 #[(0, .agg (CgC fillCg))]).run Try.prog w = .ok (.slice (some ⟨w.heap.size, 0, none⟩) 1 1) (w.alloc (.cells (eCg.cells [fillCg]).toArray 113)) := by kernel_rfl
theorem infoSt : (Try.prog.info? 71).map (fun i => (i.zero, i.size, i.bytes)) = some (some (.agg (StC zeroHd (.slice none 0 0))), 5, 32) := by kernel_rfl
def fillR (v : Value) : Array Value := #[.int .i8 (-101), .int .i8 (-101), .int .i8 (-101), .int .i8 (-101), v]
theorem fillR_eq (v : Value) : StC fillHd v = fillR v := rfl
theorem fillR_one (v : Value) (hv : v.oneCell' = true) : ∀ u ∈ (fillR v).toList, u.oneCell' = true := by
  rw [← fillR_eq]; exact StC_one fillHd v hv
def zeroR : Array Value := #[.int .i8 0, .int .i8 0, .int .i8 0, .int .i8 0, .slice none 0 0]
set_option maxHeartbeats 1000000 in
theorem fillerStep_any (w : World) :
    Calls Try.prog 44 #[] w fun e w' => ∃ g, e = .returned (.agg (StC fillHd (.slice (some ⟨g, 0, none⟩) 1 1))) ∧ w.heap.size ≤ g ∧ Held eCg w' g 113 [fillCg] ∧ Below w.heap.size w w' := by
  simp only [fillR_eq]
  have a1 := Row.new w 71 zeroR
  have h0 := (Below.refl w.heap.size w).alloc (Nat.le_refl _) (.cells zeroR 71)
  unfold zeroR at a1 h0
  go_enter Try.func44, Try.ntmps44
  go_wp2_with fail
  refine (fillerCg_any _).mono ?_
  rintro e w2 ⟨rfl, hb⟩
  replace a1 := Row.below a1 hb (Row.lt a1)
  replace h0 := grown_below h0 hb h0.size
  have zw : w.heap.size < w2.heap.size := Row.lt a1
  clear hb
  have hg : Held eCg (w2.alloc (.cells (eCg.cells [fillCg]).toArray 113)) w2.heap.size 113 [fillCg] := Row.new w2 113 _
  replace a1 := Row.alloc a1 (.cells (eCg.cells [fillCg]).toArray 113)
  replace h0 := h0.alloc h0.size (.cells (eCg.cells [fillCg]).toArray 113)
  go_wp2_with (first
    | (refine wpList_build1 (v := .agg (CgC fillCg)) (cs := (eCg.cells [fillCg]).toArray) rfl 69 113 _ rfl rfl run_build1Cg ?_; generalize w2.alloc (.cells (eCg.cells [fillCg]).toArray 113) = w3 at *)
    | (refine wpList_store_row rfl 71 _ _ rfl _ rfl a1 rfl rfl (fillR_one (.slice (some ⟨w2.heap.size, 0, none⟩) 1 1) rfl) (by kernel_rfl) ?_))
  refine bodyPost_ret_row (p := 0) (ty := 71) rfl rfl (Row.setRow a1 (fillR (.slice (some ⟨w2.heap.size, 0, none⟩) 1 1))) Try.underlying71 rfl (by kernel_rfl) rfl ⟨_, rfl, Nat.le_of_lt zw, ?_, below_setRow h0 (Nat.le_refl _) _⟩
  exact Row.setRowOther hg _ (by omega)
set_option maxHeartbeats 4000000 in
theorem toStepS_any (v : Value) (L : List Stp) (b : Bool) (w : World) (hL : L.length ≤ 1000000) (hS : ∀ i, i < L.length → (tAt L i).2.length ≤ 1000000) (h : StsAt w w.heap.size v L) (hb : b = false ∨ 0 < L.length) :
    Calls Try.prog 12 #[v, .bool b] w fun e w' => ∃ g R, e = .returned (.slice (some ⟨g, 0, none⟩) L.length (L.length + roomN L.length)) ∧ w.heap.size ≤ g ∧ StsMade w' g b L R ∧ Below w.heap.size w w' := by
  obtain ⟨A, c, rfl, h1, h2, hA⟩ := h
  obtain ⟨i0, hi, hz0, hz1, hz2⟩ := info_parts infoSt
  have hr := roomN_le L.length
  generalize hR : roomN L.length = r at *
  generalize hn : L.length = n at *
  have hmk : ∀ w : World, (Instr.makeSlice 25 (.int .i64 ((n : Int) + (r : Int))) (.int .i64 ((n : Int) + (r : Int)))).run Try.prog w = .ok (.slice (some ⟨w.heap.size, 0, none⟩) (n + r) (n + r)) (w.alloc (.cells (madeCells (StC zeroHd (.slice none 0 0)) ((n + r) * 5)) 71)) := fun w => by
    have := run_make (P := Try.prog) w 25 71 i0 _ Try.underlying25 hi hz0 .i64 .i64 ((n + r : Nat) : Int) ((n + r : Nat) : Int) (by omega) (by omega) (by rw [hz2]; omega) (by omega)
    rw [hz1, Int.toNat_natCast, Int.natCast_add] at this
    exact this
  have hmade := fun w : World => Held.made (E := eSt) w 71 zeroRaw (StC zeroHd (.slice none 0 0)) rfl (by decide) (n + r)
  have hsl := run_slice_to (P := Try.prog) Try.underlying25 hi w.heap.size (n + r) (n + r) n .i64 (by omega)
  have hE : b = true → ((n : Int) == 0) = false := fun e => by
    rcases hb with h | h
    · rw [h] at e; cases e
    · simp; omega
  have HR := Lib.hid hR
  have HN := Lib.hid hn
  have HS := Lib.hid hS
  clear hR hn hb hz0 hz1 hz2 hi hS
  obtain ⟨b', hb'⟩ : ∃ b', b' = b := ⟨_, rfl⟩
  have HB := Lib.hid hb'
  clear hb'
  cases b
  case' true => have e0 := hE rfl
  all_goals
    clear hE
    go_enter Try.func12, Try.ntmps12
    go_wp2_with (go_at_call 42; refine (room_any _ _ hL).mono ?_; rintro e w' ⟨rfl, rfl⟩; rw [HR.out])
    have hh := hmade w
    have h0 := (Below.refl w.heap.size w).alloc (Nat.le_refl _) (.cells (madeCells (StC zeroHd (.slice none 0 0)) ((n + r) * 5)) 71)
    clear hmk hmade
    rw [eSt_n] at hh
    generalize (w.alloc (.cells (madeCells (StC zeroHd (.slice none 0 0)) ((n + r) * 5)) 71)) = w1 at *
    go_loopw [6] (fun i wr => ∃ (k : Nat) (R : List Raw), k ≤ n ∧ i = .int .i64 k ∧ R.length = n + r ∧ Held eSt wr w.heap.size 71 R ∧ (∀ i, i < k → (rAt R i).1 = (tAt L i).1 ∧ CgGiven (tAt L i).2 b' (w.heap.size + 1) (rvOf (rAt R i)) wr) ∧ Below w.heap.size w wr) (fun i _ => n - (intOf i).toNat)
    case atStart => exact ⟨0, _, by omega, rfl, by simp, hh, fun i hi => absurd hi (by omega), h0⟩
    case round =>
      clear hh h0
      obtain ⟨k, R, hk, rfl, hRl, hh, hI, hb⟩ := hrel
      have HI := Lib.hid hI
      clear hI
      by_cases hlt : k < n
      · obtain ⟨b1, o1, rfl, hb1, hEl⟩ := hA (by omega)
        have hkL : k < L.length := by rw [HN.out]; exact hlt
        obtain ⟨z, r1, s1⟩ := hEl k hlt
        have g1 := range_below r1 hb hb1
        have s2 := (s1.below hb).mono hb.size
        obtain ⟨A2, c2, rfl⟩ := s1.form
        have cT := fun b => toStep_any (tAt L k).1 _ (tAt L k).2 b wr (HS.out k hlt) s2
        have zw := hh.lt
        clear hA hEl r1 s1 s2 hkL
        go_wp2_with (first | (refine wpList_load_el (E := eSt) rfl 67 _ rfl _ _ rfl ((tAt L k).1, A2, (tAt L k).2.length, c2) (StC (tAt L k).1 (.slice A2 (tAt L k).2.length c2)) rfl g1 Try.underlying67 rfl (by kernel_rfl) ?_) | (go_at_call 43; refine (cT _).mono ?_; rintro e w2 ⟨u, rfl, hT, hb2⟩; have hu := hT.slice; rcases hu with ⟨A3, n3, c3, rfl⟩; replace hh := hh.below hb2 hh.lt; replace hb := grown_below hb hb2 hb.size; clear g1 cT) | (refine wpList_store_held (E := eSt) rfl 71 _ _ rfl hh (i := k) (by omega) rfl rfl ((tAt L k).1, A3, n3, c3) rfl rfl (by kernel_rfl) ?_; intro hh' hw'; replace hb := hw'.below hb (Nat.le_refl _) hb.size; clear hh))
        go_roundw
        case rel =>
          go_light
          refine ⟨k + 1, R.set k ((tAt L k).1, A3, n3, c3), by omega, by go_num, by rw [List.length_set]; exact hRl, hh', ?_, hb⟩
          intro i hi
          by_cases e : k = i
          · subst e
            rw [rAt_set_self (by omega)]
            exact ⟨rfl, by rw [HB.out]; exact (hT.mono (by omega)).wrote hw' (by omega)⟩
          · rw [rAt_set_ne e]
            have h9 := HI.out i (by omega)
            exact ⟨h9.1, (h9.2.below hb2).wrote hw' (by omega)⟩
        case measure => simp [intOf]; omega
      · have hk' : k = n := by omega
        subst hk'
        clear hA
        go_wp2
        obtain ⟨wo, rfl⟩ : ∃ wo : World, wo = wr := ⟨_, rfl⟩
        go_loopw [7] (fun i wr => ∃ (q : Nat) (R : List Raw), q ≤ r ∧ i = .int .i64 ((k + q : Nat) : Int) ∧ R.length = k + r ∧ Held eSt wr w.heap.size 71 R ∧ (∀ i, i < k → (rAt R i).1 = (tAt L i).1 ∧ CgGiven (tAt L i).2 b' (w.heap.size + 1) (rvOf (rAt R i)) wr) ∧ (∀ i, k ≤ i → i < k + q → FillAt wr (w.heap.size + 1) (rAt R i)) ∧ Below w.heap.size w wr) (fun i _ => k + r - (intOf i).toNat)
        case atStart => exact ⟨0, R, by omega, rfl, hRl, hh, HI.out, fun i h1 h2 => absurd h2 (by omega), hb⟩
        case round =>
          clear hh hb HI hRl R
          obtain ⟨q, R, hq, rfl, hRl, hh, hI, hF, hb⟩ := hrel
          have HI := Lib.hid hI
          have HF := Lib.hid hF
          clear hI hF
          by_cases hlq : q < r
          · have zw := hh.lt
            go_wp2_with (first | (go_at_call 44; refine (fillerStep_any _).mono ?_; rintro e w2 ⟨g2, rfl, hg2, hf2, hb2⟩; replace hh := hh.below hb2 hh.lt; replace hb := grown_below hb hb2 hb.size) | (refine wpList_store_held (E := eSt) rfl 71 _ _ rfl hh (i := k + q) (by omega) rfl rfl (fillHd, some ⟨g2, 0, none⟩, 1, 1) rfl rfl (by kernel_rfl) ?_; intro hh' hw'; replace hb := hw'.below hb (Nat.le_refl _) hb.size; clear hh))
            go_roundw
            case rel =>
              go_light
              refine ⟨q + 1, R.set (k + q) (fillHd, some ⟨g2, 0, none⟩, 1, 1), by omega, by go_num, by rw [List.length_set]; exact hRl, hh', ?_, ?_, hb⟩
              · intro i hi
                rw [rAt_set_ne (by omega)]
                have h9 := HI.out i hi
                exact ⟨h9.1, (h9.2.below hb2).wrote hw' (by omega)⟩
              · intro i hi1 hi2
                by_cases e : k + q = i
                · subst e
                  rw [rAt_set_self (by omega)]
                  exact ⟨rfl, g2, rfl, by omega, Held.wrote hw' hf2 (by omega)⟩
                · rw [rAt_set_ne e]
                  exact ((HF.out i hi1 (by omega)).below hb2).wrote hw' (by omega)
            case measure => simp [intOf]; omega
          · have hqr : q = r := by omega
            subst hqr
            go_wp2
            go_ret
            refine ⟨w.heap.size, R, rfl, Nat.le_refl _, ⟨by rw [HN.out, HR.out]; exact hRl, hh, fun i hi => by have h9 := HI.out i (by rw [← HN.out]; exact hi); rw [HB.out] at h9; exact h9, fun i h1 h2 => HF.out i (by rw [← HN.out]; exact h1) (by omega)⟩, hb⟩
theorem toStepS_given (v : Value) (L : List Stp) (b : Bool) (w : World) (hL : L.length ≤ 1000000) (hS : ∀ i, i < L.length → (tAt L i).2.length ≤ 1000000) (h : StsAt w w.heap.size v L) :
    Calls Try.prog 12 #[v, .bool b] w fun e w' => ∃ v', e = .returned v' ∧ StsGiven L b w.heap.size v' w' ∧ Below w.heap.size w w' := by
  by_cases hb : b = false ∨ 0 < L.length
  · refine (toStepS_any v L b w hL hS h hb).mono ?_
    rintro e w' ⟨g, R, rfl, hg, hh, hb'⟩
    exact ⟨_, rfl, .inr ⟨g, R, rfl, hg, hh⟩, hb'⟩
  · have h0 : L.length = 0 := by omega
    have hbt : b = true := by cases b <;> simp_all
    subst hbt
    obtain ⟨A, c, rfl, h1, h2, hA⟩ := h
    clear hA h1 hb hS
    rw [h0]
    have hn := Lib.hid h0
    clear h0 hL
    go_enter Try.func12, Try.ntmps12
    go_wp2
    go_ret
    exact ⟨_, rfl, .inl ⟨rfl, rfl, hn.out⟩, Below.refl _ _⟩
end Go.Proofs.Ytjbjbdkmomkclaa
