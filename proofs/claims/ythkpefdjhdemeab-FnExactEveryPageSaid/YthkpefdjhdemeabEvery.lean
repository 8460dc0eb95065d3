/- EveryPage: spec and impl. -/
import Derived.Test.YthkpefdjhdemeabRows
import Derived.Test.YthkpefdjhdemeabBack
import Derived.Test.YthkpefdjhdemeabApp
namespace Go.Proofs.Ythkpefdjhdemeab
set_option maxRecDepth 100000
open Go.RowKit
set_option linter.unusedVariables false
set_option linter.unusedSimpArgs false
def evN (n s f : Nat) : Nat := (n - f + s - 1) / s
theorem ev_iff {n s f k : Nat} (hs : 0 < s) : k < evN n s f ↔ f + k * s < n := by
  unfold evN
  rw [Nat.lt_iff_add_one_le, Nat.le_div_iff_mul_le hs, Nat.succ_mul]
  omega
theorem evN_le {n s f : Nat} (hs : 0 < s) : evN n s f ≤ n := by
  apply Classical.byContradiction
  intro h
  have h1 := (ev_iff (n := n) (f := f) (k := n) hs).1 (by omega)
  have : n * 1 ≤ n * s := Nat.mul_le_mul_left _ hs
  omega
def everyL (L : List (Nat → Nat)) (s f : Nat) : List (Nat → Nat) := tab (fun k => fAt L (f + k * s)) (evN L.length s f)
def evC (L : List (Nat → Nat)) (s f : Int) : Int := if okB L then (if inB s 1 40 && inB f 0 ((L.length : Int) - 1) then 0 else 2) else 1
theorem evC_cases (L : List (Nat → Nat)) (s f : Int) : (okB L = false ∧ evC L s f = 1) ∨ (okB L = true ∧ inB s 1 40 = false ∧ evC L s f = 2) ∨ (okB L = true ∧ inB s 1 40 = true ∧ inB f 0 ((L.length : Int) - 1) = false ∧ evC L s f = 2) ∨ (okB L = true ∧ inB s 1 40 = true ∧ inB f 0 ((L.length : Int) - 1) = true ∧ evC L s f = 0) := by
  unfold evC; cases okB L <;> cases inB s 1 40 <;> cases inB f 0 ((L.length : Int) - 1) <;> simp
def everyV (L : List (Nat → Nat)) (s f : Int) : List (Nat → Nat) := everyL L s.toNat f.toNat
theorem every_if_len (L : List (Nat → Nat)) (s f : Int) : (ifL (evC L s f) (everyV L s f)).length ≤ 1000 := by
  refine ifL_len fun hc => ?_
  rcases evC_cases L s f with ⟨_, h⟩ | ⟨_, _, h⟩ | ⟨_, _, _, h⟩ | ⟨ho, h1, _, h⟩
  · omega
  · omega
  · omega
  · unfold everyV everyL
    rw [tab_length]
    have := okB_len ho
    have h2 := inB_iff.1 h1
    have := evN_le (n := L.length) (s := s.toNat) (f := f.toNat) (by omega)
    omega
set_option maxHeartbeats 2000000 in
theorem specEveryPage_any (v : Value) (L : List (Nat → Nat)) (s f : Int) (w : World) (hL : ltL L) (h : SlAt eFr w w.heap.size v L) :
    Calls Try.prog 40 #[v, .int .i64 s, .int .i64 f] w (GivesL eFr 54 (ifL (evC L s f) (everyV L s f)) (evC L s f) w) := by
  have cO := specOk_any v L w h
  have h' := h
  obtain ⟨A, c, rfl, h1, h2, hA⟩ := h'
  unfold maxLen at h2
  rcases evC_cases L s f with ⟨ho, hc⟩ | ⟨ho, hi1, hc⟩ | ⟨ho, hi1, hi2, hc⟩ | ⟨ho, hi1, hi2, hc⟩
  · rw [ho] at cO
    rw [hc, ifL1 _ (by decide)]
    have hm := OwnL.made (E := eFr) w w.heap.size 54 (Nat.le_refl _)
    have h0 := (Below.refl w.heap.size w).alloc (Nat.le_refl _) (.cells #[] 54)
    clear ho hc h hA
    go_enter Try.func40, Try.ntmps40
    go_wp2_with (first | (go_at_call 57; refine cO.mono ?_; rintro e w' ⟨rfl, rfl⟩) | (go_at_call 76; refine (in_any _ _ _ _).mono ?_; rintro e w' ⟨rfl, rfl⟩))
    go_ret2
    exact ⟨_, rfl, hm, h0⟩
  · rw [ho] at cO
    rw [hc, ifL1 _ (by decide)]
    have hlen := okB_len ho
    have k0 : IntKind.i64.wrap ((L.length : Int) - 1) = (L.length : Int) - 1 := IntWalk.i64_in _ (by omega)
    have hm := OwnL.made (E := eFr) w w.heap.size 54 (Nat.le_refl _)
    have h0 := (Below.refl w.heap.size w).alloc (Nat.le_refl _) (.cells #[] 54)
    clear ho hc h hA
    go_enter Try.func40, Try.ntmps40
    go_wp2_with (first | (go_at_call 57; refine cO.mono ?_; rintro e w' ⟨rfl, rfl⟩) | (go_at_call 76; refine (in_any _ _ _ _).mono ?_; rintro e w' ⟨rfl, rfl⟩))
    go_ret2
    exact ⟨_, rfl, hm, h0⟩
  · rw [ho] at cO
    rw [hc, ifL1 _ (by decide)]
    have hlen := okB_len ho
    have k0 : IntKind.i64.wrap ((L.length : Int) - 1) = (L.length : Int) - 1 := IntWalk.i64_in _ (by omega)
    have hm := OwnL.made (E := eFr) w w.heap.size 54 (Nat.le_refl _)
    have h0 := (Below.refl w.heap.size w).alloc (Nat.le_refl _) (.cells #[] 54)
    clear ho hc h hA
    go_enter Try.func40, Try.ntmps40
    go_wp2_with (first | (go_at_call 57; refine cO.mono ?_; rintro e w' ⟨rfl, rfl⟩) | (go_at_call 76; refine (in_any _ _ _ _).mono ?_; rintro e w' ⟨rfl, rfl⟩))
    go_ret2
    exact ⟨_, rfl, hm, h0⟩
  · rw [ho] at cO
    rw [hc, ifL0]
    have hlen := okB_len ho
    have a1 := inB_iff.1 hi1
    have a2 := inB_iff.1 hi2
    unfold everyV
    obtain ⟨s, rfl⟩ := Int.eq_ofNat_of_zero_le (show 0 ≤ s by omega)
    obtain ⟨f, rfl⟩ := Int.eq_ofNat_of_zero_le a2.1
    rw [Int.toNat_natCast, Int.toNat_natCast]
    have hs1 : 1 ≤ s := by omega
    have hs2 : s ≤ 40 := by omega
    have hf : f < L.length := by omega
    have k0 : IntKind.i64.wrap ((L.length : Int) - 1) = (L.length : Int) - 1 := IntWalk.i64_in _ (by omega)
    have p1 : (1 : Int) ≤ (s : Int) := by omega
    have p2 : (s : Int) ≤ 40 := by omega
    have p3 : (f : Int) < (L.length : Int) := by omega
    
    
    
    
    have hm := OwnL.made (E := eFr) w w.heap.size 54 (Nat.le_refl _)
    have h0 := (Below.refl w.heap.size w).alloc (Nat.le_refl _) (.cells #[] 54)
    clear ho hc a1 a2
    go_enter Try.func40, Try.ntmps40
    go_wp2_with (first | (go_at_call 57; refine cO.mono ?_; rintro e w' ⟨rfl, rfl⟩) | (go_at_call 76; refine (in_any _ _ _ _).mono ?_; rintro e w' ⟨rfl, rfl⟩))
    
    clear k0 h p1 p2 p3
    go_loopw [8, 9] (fun u i wr => ∃ k : Nat, k ≤ evN L.length s f ∧ i = .int .i64 ((f + k * s : Nat) : Int) ∧ OwnL eFr wr w.heap.size 54 u (tab (fun k => fAt L (f + k * s)) k) ∧ Below w.heap.size w wr) (fun _ i _ => L.length - (intOf i).toNat)
    case atStart => exact ⟨0, by omega, by simp, hm, h0⟩
    case round =>
      clear hm h0
      obtain ⟨k, hk, rfl, hown, hb⟩ := hrel
      have hev := ev_iff (n := L.length) (f := f) (k := k) hs1
      have hstep : f + (k + 1) * s = f + k * s + s := by rw [Nat.succ_mul]; omega
      have HST := Lib.hid hstep
      have hke := evN_le (n := L.length) (f := f) hs1
      by_cases hlt : k < evN L.length s f
      · have hp := hev.1 hlt
        obtain ⟨b1, o1, rfl, hbb, r1⟩ := hA (by omega)
        have g1 := range_below (range_part r1 (fAt_get hp)) hb hbb
        rw [eFr_n] at g1
        have hll : (tab (fun k => fAt L (f + k * s)) k).length ≤ 1000 := by rw [tab_length]; omega
        clear hA r1 hev hstep
        generalize hq : f + k * s = p at *
        have HQ := Lib.hid hq
        clear hq
        go_wp2_with (first | (refine wpList_load_at rfl 54 52 _ rfl _ _ rfl g1 Try.underlying54 (by kernel_rfl) ?_) | (refine wpList_build1 (v := .agg (FC (fAt L p))) (cs := FC (fAt L p)) rfl 26 54 _ rfl rfl (fun w => run_build_frs w (fAt L p)) ?_) | (at_builtin; refine wpList_append_one rfl _ _ 26 rfl w.heap.size 54 Try.underlying26 infoFrL rfl (by decide) (by omega) (hown.alloc (.cells (FC (fAt L p)) 54)) rfl (fAt L p) rfl (range_new _ _ (FC (fAt L p))) (by omega) (by have := hb.size; simp; omega) ?_; intro v' w4 hown' hgrow))
        go_roundw
        case rel =>
          go_light
          refine ⟨k + 1, by omega, ?_, ?_, (hown.alloc _).grown_below (hb.alloc hb.size _) hgrow (Nat.le_refl _) (by have := hb.size; simp; omega)⟩
          · rw [HST.out]; go_num
          · rw [tab_succ, HQ.out]; exact hown'
        case measure => simp [intOf]; omega
      · have hp : ¬ f + k * s < L.length := fun h => hlt (hev.2 h)
        have hkl : k = evN L.length s f := by omega
        have HO := Lib.hid hown
        clear hA hev hstep hlt hown
        generalize f + k * s = p at *
        have HK := Lib.hid hkl
        clear hkl
        go_wp2
        go_ret2
        refine ⟨_, rfl, ?_, hb⟩
        unfold everyL
        rw [← HK.out]
        exact HO.out
set_option maxHeartbeats 2000000 in
theorem implEveryPage_any (v : Value) (L : List (Nat → Nat)) (s f : Int) (w : World) (hL : ltL L) (h : SlAt eFr w w.heap.size v L) :
    Calls Try.prog 41 #[v, .int .i64 s, .int .i64 f] w (GivesL eFr 54 (ifL (evC L s f) (everyV L s f)) (evC L s f) w) := by
  have cV := implValidBook_any v L w hL h
  have h' := h
  obtain ⟨A, c, rfl, h1, h2, hA⟩ := h'
  unfold maxLen at h2
  rcases evC_cases L s f with ⟨ho, hc⟩ | ⟨ho, hi1, hc⟩ | ⟨ho, hi1, hi2, hc⟩ | ⟨ho, hi1, hi2, hc⟩
  · rw [ho] at cV
    rw [hc, ifL1 _ (by decide)]
    clear ho hc h hA
    go_enter Try.func41, Try.ntmps41
    go_wp2_with (first | (go_at_call 18; refine cV.mono ?_; rintro e w1 ⟨rfl, hb1⟩))
    go_ret2
    exact ⟨_, rfl, OwnL.nil_ _ _ _, hb1⟩
  · rw [ho] at cV
    rw [hc, ifL1 _ (by decide)]
    have h3 := inB_false.1 hi1
    clear ho hc h hA hi1
    by_cases h5 : s < 1
    all_goals
      have h6 : 40 < s ∨ s < 1 := by omega
    · clear h3 h6
      go_enter Try.func41, Try.ntmps41
      go_wp2_with (first | (go_at_call 18; refine cV.mono ?_; rintro e w1 ⟨rfl, hb1⟩))
      go_ret2
      exact ⟨_, rfl, OwnL.nil_ _ _ _, hb1⟩
    · have h7 : 40 < s := by omega
      have h8 : 1 ≤ s := by omega
      clear h3 h6 h5
      go_enter Try.func41, Try.ntmps41
      go_wp2_with (first | (go_at_call 18; refine cV.mono ?_; rintro e w1 ⟨rfl, hb1⟩))
      go_ret2
      exact ⟨_, rfl, OwnL.nil_ _ _ _, hb1⟩
  · rw [ho] at cV
    rw [hc, ifL1 _ (by decide)]
    have h3 : f < 0 ∨ (L.length : Int) ≤ f := by have := inB_false.1 hi2; omega
    have h4 := inB_iff.1 hi1
    have q1 : 1 ≤ s := h4.1
    have q2 : s ≤ 40 := h4.2
    clear h4
    clear ho hc h hA hi1 hi2
    by_cases h5 : f < 0
    all_goals
      have h6 : (L.length : Int) ≤ f ∨ f < 0 := by omega
    · clear h3 h6
      go_enter Try.func41, Try.ntmps41
      go_wp2_with (first | (go_at_call 18; refine cV.mono ?_; rintro e w1 ⟨rfl, hb1⟩))
      go_ret2
      exact ⟨_, rfl, OwnL.nil_ _ _ _, hb1⟩
    · have h7 : (L.length : Int) ≤ f := by omega
      have h8 : 0 ≤ f := by omega
      clear h3 h6 h5
      go_enter Try.func41, Try.ntmps41
      go_wp2_with (first | (go_at_call 18; refine cV.mono ?_; rintro e w1 ⟨rfl, hb1⟩))
      go_ret2
      exact ⟨_, rfl, OwnL.nil_ _ _ _, hb1⟩
  · rw [ho] at cV
    rw [hc, ifL0]
    have hlen := okB_len ho
    have a1 := inB_iff.1 hi1
    have a2 := inB_iff.1 hi2
    unfold everyV
    obtain ⟨s, rfl⟩ := Int.eq_ofNat_of_zero_le (show 0 ≤ s by omega)
    obtain ⟨f, rfl⟩ := Int.eq_ofNat_of_zero_le a2.1
    rw [Int.toNat_natCast, Int.toNat_natCast]
    have hs1 : 1 ≤ s := by omega
    have hs2 : s ≤ 40 := by omega
    have hf : f < L.length := by omega
    have k0 : IntKind.i64.wrap ((L.length : Int) - 1) = (L.length : Int) - 1 := IntWalk.i64_in _ (by omega)
    have p1 : (1 : Int) ≤ (s : Int) := by omega
    have p2 : (s : Int) ≤ 40 := by omega
    have p3 : (f : Int) < (L.length : Int) := by omega
    have e1 : decide ((s : Int) < 1) = false := decide_eq_false (by omega)
    have e2 : decide (40 < (s : Int)) = false := decide_eq_false (by omega)
    have e3 : decide ((f : Int) < 0) = false := decide_eq_false (by omega)
    have e4 : decide (L.length ≤ f) = false := decide_eq_false (by omega)
    clear ho hc a1 a2 hi1 hi2
    go_enter Try.func41, Try.ntmps41
    go_wp2_with (first | (go_at_call 18; refine cV.mono ?_; rintro e w1 ⟨rfl, hb1⟩))
    have hm := OwnL.nil_ (E := eFr) w1 w.heap.size 54
    have h0 := hb1
    clear k0 h p1 p2 p3 e1 e2 e3 e4
    go_loopw [9, 10] (fun u i wr => ∃ k : Nat, k ≤ evN L.length s f ∧ i = .int .i64 ((f + k * s : Nat) : Int) ∧ OwnL eFr wr w.heap.size 54 u (tab (fun k => fAt L (f + k * s)) k) ∧ Below w.heap.size w wr) (fun _ i _ => L.length - (intOf i).toNat)
    case atStart => exact ⟨0, by omega, by simp, hm, h0⟩
    case round =>
      clear hm h0
      obtain ⟨k, hk, rfl, hown, hb⟩ := hrel
      have hev := ev_iff (n := L.length) (f := f) (k := k) hs1
      have hstep : f + (k + 1) * s = f + k * s + s := by rw [Nat.succ_mul]; omega
      have HST := Lib.hid hstep
      have hke := evN_le (n := L.length) (f := f) hs1
      by_cases hlt : k < evN L.length s f
      · have hp := hev.1 hlt
        obtain ⟨b1, o1, rfl, hbb, r1⟩ := hA (by omega)
        have g1 := range_below (range_part r1 (fAt_get hp)) hb hbb
        rw [eFr_n] at g1
        have hll : (tab (fun k => fAt L (f + k * s)) k).length ≤ 1000 := by rw [tab_length]; omega
        clear hA r1 hev hstep
        generalize hq : f + k * s = p at *
        have HQ := Lib.hid hq
        clear hq
        go_wp2_with (first | (refine wpList_load_at rfl 54 52 _ rfl _ _ rfl g1 Try.underlying54 (by kernel_rfl) ?_) | (refine wpList_build1 (v := .agg (FC (fAt L p))) (cs := FC (fAt L p)) rfl 26 54 _ rfl rfl (fun w => run_build_frs w (fAt L p)) ?_) | (at_builtin; refine wpList_append_one rfl _ _ 26 rfl w.heap.size 54 Try.underlying26 infoFrL rfl (by decide) (by omega) (hown.alloc (.cells (FC (fAt L p)) 54)) rfl (fAt L p) rfl (range_new _ _ (FC (fAt L p))) (by omega) (by have := hb.size; simp; omega) ?_; intro v' w4 hown' hgrow))
        go_roundw
        case rel =>
          go_light
          refine ⟨k + 1, by omega, ?_, ?_, (hown.alloc _).grown_below (hb.alloc hb.size _) hgrow (Nat.le_refl _) (by have := hb.size; simp; omega)⟩
          · rw [HST.out]; go_num
          · rw [tab_succ, HQ.out]; exact hown'
        case measure => simp [intOf]; omega
      · have hp : ¬ f + k * s < L.length := fun h => hlt (hev.2 h)
        have hkl : k = evN L.length s f := by omega
        have HO := Lib.hid hown
        clear hA hev hstep hlt hown
        generalize f + k * s = p at *
        have HK := Lib.hid hkl
        clear hkl
        go_wp2
        go_ret2
        refine ⟨_, rfl, ?_, hb⟩
        unfold everyL
        rw [← HK.out]
        exact HO.out
end Go.Proofs.Ythkpefdjhdemeab
