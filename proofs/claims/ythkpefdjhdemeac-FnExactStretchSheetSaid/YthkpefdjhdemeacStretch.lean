/- StretchSheet: spec and impl. -/
import Derived.Test.YthkpefdjhdemeacTicks
import Derived.Test.YthkpefdjhdemeacMShot
import Derived.Lib.MinMax
namespace Go.Proofs.Ythkpefdjhdemeac
set_option maxRecDepth 100000
open Go.RowKit
set_option linter.unusedVariables false
set_option linter.unusedSimpArgs false
def hN (a d m : Nat) : Nat := max 1 (m * a / d)
def strF (a d : Nat) (S : List (Int × Int)) (i : Nat) : Int × Int := ((sAt S i).1, ((hN a d (sAt S i).2.toNat : Nat) : Int))
def strL (a d : Int) (S : List (Int × Int)) : List (Int × Int) := tab (strF a.toNat d.toNat S) S.length
def fineS (a d : Int) (S : List (Int × Int)) : Bool := decide (∀ i, i < S.length → hN a.toNat d.toNat (sAt S i).2.toNat ≤ 24)
def fineC (a d : Int) (S : List (Int × Int)) : Int := if fineS a d S then 0 else 3
def stC (L : List (Nat → Nat)) (S : List (Int × Int)) (a d : Int) : Int := if okBS L S then (if inB a 1 100 && inB d 1 100 then fineC a d S else 2) else 1
theorem stC_cases (L : List (Nat → Nat)) (S : List (Int × Int)) (a d : Int) : (okBS L S = false ∧ stC L S a d = 1) ∨ (okBS L S = true ∧ inB a 1 100 = false ∧ stC L S a d = 2) ∨ (okBS L S = true ∧ inB a 1 100 = true ∧ inB d 1 100 = false ∧ stC L S a d = 2) ∨ (okBS L S = true ∧ inB a 1 100 = true ∧ inB d 1 100 = true ∧ stC L S a d = fineC a d S) := by
  unfold stC; cases okBS L S <;> cases inB a 1 100 <;> cases inB d 1 100 <;> simp
theorem st_if_len (L : List (Nat → Nat)) (S : List (Int × Int)) (a d : Int) : (ifL (stC L S a d) (strL a d S)).length ≤ 1000 := by
  refine ifL_len fun hc => ?_
  unfold strL
  rw [tab_length]
  rcases stC_cases L S a d with ⟨_, h⟩ | ⟨_, _, h⟩ | ⟨_, _, _, h⟩ | ⟨ho, _, _, _⟩
  · omega
  · omega
  · omega
  · have := (okS_iff.1 (okBS_parts ho).2.2).1; omega
theorem fine_bad {a d : Nat} {S : List (Int × Int)} {k : Nat} (hk : k < S.length) (h : 24 < hN a d (sAt S k).2.toNat) : fineC (a : Int) (d : Int) S = 3 := by
  have : fineS (a : Int) (d : Int) S = false := decide_eq_false (fun hh => by have := hh k hk; rw [Int.toNat_natCast, Int.toNat_natCast] at this; omega)
  unfold fineC; rw [this]; rfl
theorem fine_ok {a d : Nat} {S : List (Int × Int)} (h : ∀ j, j < S.length → hN a d (sAt S j).2.toNat ≤ 24) : fineC (a : Int) (d : Int) S = 0 := by
  have : fineS (a : Int) (d : Int) S = true := decide_eq_true (fun j hj => by rw [Int.toNat_natCast, Int.toNat_natCast]; exact h j hj)
  unfold fineC; rw [this]; rfl
theorem wr64 {q : Nat} (h : q ≤ 2400) : wrap64 (q : Int) = q := IntWalk.wrap64_in _ (by omega)
theorem max_nat (q : Nat) : max (1 : Int) (q : Int) = ((max 1 q : Nat) : Int) := by omega
theorem infoShL : (Try.prog.info? 73).map (fun i => (i.zero, i.size, i.bytes)) = some (some (.agg (SC zeroS)), eSh.n, 2) := by kernel_rfl
theorem run_build_shs (w : World) (s : Int × Int) : (Instr.buildSlice 40 1 #[(0, .agg (SC s))]).run Try.prog w = .ok (.slice (some ⟨w.heap.size, 0, none⟩) 1 1) (w.alloc (.cells (SC s) 73)) := by kernel_rfl
theorem max_any (q : Nat) (w : World) : Calls Try.prog 72 #[.int .i64 1, .int .i64 q] w fun e w' => e = .returned (.int .i64 ((max 1 q : Nat) : Int)) ∧ w = w' := by
  by_cases h : 1 < q
  · have e1 : (1 : Int) < (q : Int) := by omega
    have e2 : ¬ (q : Int) < 1 := by omega
    have hv : max 1 q = q := by omega
    rw [hv]
    go_enter Try.func72, Try.ntmps72
    go_wp2
    go_ret
    exact ⟨rfl, rfl⟩
  · have e1 : ¬ (1 : Int) < (q : Int) := by omega
    have hv : max 1 q = 1 := by omega
    rw [hv]
    by_cases h0 : q = 1
    · subst h0
      go_enter Try.func72, Try.ntmps72
      go_wp2
      go_ret
      exact ⟨rfl, rfl⟩
    · have e2 : (q : Int) < 1 := by omega
      obtain rfl : q = 0 := by omega
      go_enter Try.func72, Try.ntmps72
      go_wp2
      go_ret
      exact ⟨rfl, rfl⟩
set_option maxHeartbeats 2000000 in
theorem specStretch_any (v u : Value) (L : List (Nat → Nat)) (S : List (Int × Int)) (a d : Int) (w : World) (hS : ltS S) (h : SlAt eFr w w.heap.size v L) (hs : SlAt eSh w w.heap.size u S) :
    Calls Try.prog 45 #[v, u, .int .i64 a, .int .i64 d] w (GivesL eSh 73 (ifL (stC L S a d) (strL a d S)) (stC L S a d) w) := by
  have cO := specSheet_any v u L S w hS h hs
  have cA := fun W => in_any a 1 100 W
  have cD := fun W => in_any d 1 100 W
  obtain ⟨A, c, rfl⟩ := h.form
  obtain ⟨B, e, rfl, h3, h4, hB⟩ := hs
  clear h
  unfold maxLen at h4
  rcases stC_cases L S a d with ⟨ho, hc⟩ | ⟨ho, hi, hc⟩ | ⟨ho, hi, hj, hc⟩ | ⟨ho, hi, hj, hc⟩
  · rw [ho] at cO
    rw [hc, ifL1 _ (by decide)]
    clear hB ho hc cA cD
    go_enter Try.func45, Try.ntmps45
    go_wp2_with (go_at_call 59; refine cO.mono ?_; rintro e w3 ⟨rfl, hb3⟩)
    go_ret2
    exact ⟨_, rfl, OwnL.made _ w.heap.size 73 hb3.size, hb3.alloc hb3.size _⟩
  · rw [ho] at cO
    rw [hi] at cA
    rw [hc, ifL1 _ (by decide)]
    clear hB ho hc cD hi
    go_enter Try.func45, Try.ntmps45
    go_wp2_with (first | (go_at_call 59; refine cO.mono ?_; rintro e w3 ⟨rfl, hb3⟩) | (go_at_call 65; refine (cA _).mono ?_; rintro e w' ⟨rfl, rfl⟩))
    go_ret2
    exact ⟨_, rfl, OwnL.made _ w.heap.size 73 hb3.size, hb3.alloc hb3.size _⟩
  · rw [ho] at cO
    rw [hi] at cA
    rw [hj] at cD
    rw [hc, ifL1 _ (by decide)]
    clear hB ho hc hi hj
    go_enter Try.func45, Try.ntmps45
    go_wp2_with (first | (go_at_call 59; refine cO.mono ?_; rintro e w3 ⟨rfl, hb3⟩) | ((go_at_call 65; first | (refine (cA _).mono ?_; rintro e w' ⟨rfl, rfl⟩; clear cA) | (refine (cD _).mono ?_; rintro e w' ⟨rfl, rfl⟩; clear cD))))
    go_ret2
    exact ⟨_, rfl, OwnL.made _ w.heap.size 73 hb3.size, hb3.alloc hb3.size _⟩
  · rw [ho] at cO
    rw [hi] at cA
    rw [hj] at cD
    have hi' := inB_iff.1 hi
    have hj' := inB_iff.1 hj
    have hok := (okBS_parts ho).2.2
    have hn40 := (okBS_parts ho).2.1
    have h80 := (okS_iff.1 hok).1
    obtain ⟨a, rfl⟩ := Int.eq_ofNat_of_zero_le (show 0 ≤ a by omega)
    obtain ⟨d, rfl⟩ := Int.eq_ofNat_of_zero_le (show 0 ≤ d by omega)
    have ha : a ≤ 100 := by omega
    have hd1 : 1 ≤ d := by omega
    have hd : d ≤ 100 := by omega
    rw [hc]
    clear ho hc hi hj hi' hj'
    go_enter Try.func45, Try.ntmps45
    go_wp2_with (first | (go_at_call 59; refine cO.mono ?_; rintro e w3 ⟨rfl, hb3⟩) | ((go_at_call 65; first | (refine (cA _).mono ?_; rintro e w' ⟨rfl, rfl⟩; clear cA) | (refine (cD _).mono ?_; rintro e w' ⟨rfl, rfl⟩; clear cD))))
    have hm := OwnL.made (E := eSh) w3 w.heap.size 73 hb3.size
    have h0 := hb3.alloc hb3.size (.cells #[] 73)
    clear hb3
    go_loopw [10, 11] (fun v i wr => ∃ k : Nat, k ≤ S.length ∧ i = .int .i64 k ∧ (∀ j, j < k → hN a d (sAt S j).2.toNat ≤ 24) ∧ OwnL eSh wr w.heap.size 73 v (tab (strF a d S) k) ∧ Below w.heap.size w wr) (fun _ i _ => S.length - (intOf i).toNat)
    case atStart => exact ⟨0, by omega, rfl, by omega, hm, h0⟩
    case round =>
      clear hm h0
      obtain ⟨k, hk, rfl, he, hown, hb⟩ := hrel
      have HE := Lib.hid he
      clear he
      by_cases hlt : k < S.length
      · obtain ⟨b1, o1, rfl, hb1, r1⟩ := hB (by omega)
        have g1 := range_below (range_part r1 (sAt_get hlt)) hb hb1
        rw [eSh_n] at g1
        have hh := okS_holds hok hlt
        have HU := Lib.hid (tab_succ (strF a d S) k)
        have hF : strF a d S k = ((sAt S k).1, ((hN a d (sAt S k).2.toNat : Nat) : Int)) := rfl
        have HB := Lib.hid (fun h => fine_bad (a := a) (d := d) hlt h)
        clear hB r1
        have c0 := sh_cell0 g1
        have c1 := sh_cell1 g1
        clear g1
        obtain ⟨m, hmm⟩ : ∃ m : Nat, (sAt S k).2 = m := ⟨(sAt S k).2.toNat, by omega⟩
        have HMM := Lib.hid (show (sAt S k).2.toNat = m by rw [hmm]; rfl)
        generalize hx : (sAt S k).1 = x at *
        rw [hmm] at c1 hh hF
        rw [Int.toNat_natCast] at hF
        have hm24 : m ≤ 24 := by omega
        clear hx hmm
        have hz : m * a ≤ 2400 := by have := Nat.mul_le_mul hm24 ha; omega
        have k1 : IntKind.i64.wrap (m : Int) = m := IntWalk.i64_in _ (by omega)
        have k2 : IntKind.i64.wrap ((m : Int) * (a : Int)) = ((m * a : Nat) : Int) := by rw [IntWalk.i64_in _ (by rw [← Int.natCast_mul]; omega)]; rw [Int.natCast_mul]
        have hq2 : m * a / d ≤ 2400 := Nat.le_trans (Nat.div_le_self _ _) hz
        have k3 : wrap64 (((m * a : Nat) : Int) / (d : Int)) = ((m * a / d : Nat) : Int) := by rw [← Int.natCast_ediv]; exact wr64 hq2
        have hd0 : ((d : Int) == 0) = false := by simp; omega
        have cM := fun W => max_any (m * a / d) W
        have hN1 : max 1 (m * a / d) = hN a d m := rfl
        rw [hN1] at cM
        have hll : (tab (strF a d S) k).length ≤ 1000 := by rw [tab_length]; omega
        have hsz := hb.size
        generalize hhv : hN a d m = hv at *
        generalize m * a = z at *
        generalize z / d = z2 at *
        by_cases hbig : 24 < hv
        · have e1 : decide (24 < (hv : Int)) = true := decide_eq_true (by omega)
          have HB' := Lib.hid (HB.out (by rw [HMM.out, hhv]; exact hbig))
          clear HB hN1 hhv HU hF
          go_wp2_with (go_at_call 72; refine (cM _).mono ?_; rintro e w9 ⟨rfl, rfl⟩)
          go_ret2
          rw [HB'.out, ifL1 _ (by decide)]
          exact ⟨_, rfl, OwnL.made _ w.heap.size 73 hb.size, hb.alloc hb.size _⟩
        · have e1 : decide (24 < (hv : Int)) = false := decide_eq_false (by omega)
          have k8 : IntKind.i8.wrap (hv : Int) = hv := IntWalk.i8_in _ (by omega)
          have HF := Lib.hid hF
          have HH := Lib.hid (show hN a d (sAt S k).2.toNat ≤ 24 by rw [HMM.out, hhv]; omega)
          clear HB hN1 hhv hF
          go_wp2_with (first | (go_at_call 72; refine (cM _).mono ?_; rintro e w9 ⟨rfl, rfl⟩) | (refine wpList_build1 (v := .agg (SC (x, (hv : Int)))) (cs := SC (x, (hv : Int))) rfl 40 73 _ rfl rfl (fun w => run_build_shs w (x, (hv : Int))) ?_) | (at_builtin; refine wpList_append_one rfl _ _ 40 rfl w.heap.size 73 Try.underlying40 infoShL rfl (by decide) (by omega) (hown.alloc (.cells (SC (x, (hv : Int))) 73)) rfl (x, (hv : Int)) rfl (range_new _ _ (SC (x, (hv : Int)))) (by omega) (by simp; omega) ?_; intro v' w6 hown' hgrow))
          go_roundw
          case rel =>
            go_light
            refine ⟨k + 1, by omega, by go_num, ?_, ?_, (hown.alloc _).grown_below (hb.alloc hb.size _) hgrow (Nat.le_refl _) (by simp; omega)⟩
            · intro j hj
              rcases Nat.lt_succ_iff_lt_or_eq.1 hj with h | rfl
              · exact HE.out j h
              · exact HH.out
            · rw [HU.out, HF.out]; exact hown'
          case measure => simp [intOf]; omega
      · have hkl : k = S.length := by omega
        subst hkl
        clear hB
        go_wp2
        go_ret2
        rw [fine_ok HE.out, ifL0]
        refine ⟨_, rfl, ?_, hb⟩
        unfold strL
        rw [Int.toNat_natCast, Int.toNat_natCast]
        exact hown
set_option maxHeartbeats 2000000 in
theorem implStretch_any (v u : Value) (L : List (Nat → Nat)) (S : List (Int × Int)) (a d : Int) (w : World) (hL : ltL L) (hS : ltS S) (h : SlAt eFr w w.heap.size v L) (hs : SlAt eSh w w.heap.size u S) :
    Calls Try.prog 46 #[v, u, .int .i64 a, .int .i64 d] w (GivesL eSh 73 (ifL (stC L S a d) (strL a d S)) (stC L S a d) w) := by
  have cO := implValidSheet_any v u L S w hL hS h hs
  obtain ⟨A, c, rfl⟩ := h.form
  obtain ⟨B, e, rfl, h3, h4, hB⟩ := hs
  clear h
  unfold maxLen at h4
  rcases stC_cases L S a d with ⟨ho, hc⟩ | ⟨ho, hi, hc⟩ | ⟨ho, hi, hj, hc⟩ | ⟨ho, hi, hj, hc⟩
  · rw [ho] at cO
    rw [hc, ifL1 _ (by decide)]
    clear hB ho hc
    go_enter Try.func46, Try.ntmps46
    go_wp2_with (go_at_call 30; refine cO.mono ?_; rintro e w3 ⟨rfl, hb3⟩)
    go_ret2
    exact ⟨_, rfl, OwnL.nil_ _ _ _, hb3⟩
  · rw [ho] at cO
    rw [hc, ifL1 _ (by decide)]
    have hi' := inB_false.1 hi
    clear hB ho hc hi
    by_cases q1 : a < 1
    · have e1 : decide (a < 1) = true := decide_eq_true q1
      go_enter Try.func46, Try.ntmps46
      go_wp2_with (go_at_call 30; refine cO.mono ?_; rintro e w3 ⟨rfl, hb3⟩)
      go_ret2
      exact ⟨_, rfl, OwnL.nil_ _ _ _, hb3⟩
    · have e1 : decide (a < 1) = false := decide_eq_false q1
      have q2 : 100 < a := by omega
      have e2 : decide (100 < a) = true := decide_eq_true q2
      clear hi'
      go_enter Try.func46, Try.ntmps46
      go_wp2_with (go_at_call 30; refine cO.mono ?_; rintro e w3 ⟨rfl, hb3⟩)
      go_ret2
      exact ⟨_, rfl, OwnL.nil_ _ _ _, hb3⟩
  · rw [ho] at cO
    rw [hc, ifL1 _ (by decide)]
    have hi' := inB_iff.1 hi
    have hj' := inB_false.1 hj
    have e1 : decide (a < 1) = false := decide_eq_false (by omega)
    have e2 : decide (100 < a) = false := decide_eq_false (by omega)
    have q1 : 1 ≤ a := hi'.1
    have q2 : a ≤ 100 := hi'.2
    clear hB ho hc hi hj hi'
    by_cases q3 : d < 1
    · have e3 : decide (d < 1) = true := decide_eq_true q3
      clear hj'
      go_enter Try.func46, Try.ntmps46
      go_wp2_with (go_at_call 30; refine cO.mono ?_; rintro e w3 ⟨rfl, hb3⟩)
      go_ret2
      exact ⟨_, rfl, OwnL.nil_ _ _ _, hb3⟩
    · have e3 : decide (d < 1) = false := decide_eq_false q3
      have q4 : 100 < d := by omega
      have e4 : decide (100 < d) = true := decide_eq_true q4
      clear hj'
      go_enter Try.func46, Try.ntmps46
      go_wp2_with (go_at_call 30; refine cO.mono ?_; rintro e w3 ⟨rfl, hb3⟩)
      go_ret2
      exact ⟨_, rfl, OwnL.nil_ _ _ _, hb3⟩
  · rw [ho] at cO
    have hi' := inB_iff.1 hi
    have hj' := inB_iff.1 hj
    have hok := (okBS_parts ho).2.2
    have hn40 := (okBS_parts ho).2.1
    have h80 := (okS_iff.1 hok).1
    obtain ⟨a, rfl⟩ := Int.eq_ofNat_of_zero_le (show 0 ≤ a by omega)
    obtain ⟨d, rfl⟩ := Int.eq_ofNat_of_zero_le (show 0 ≤ d by omega)
    have ha : a ≤ 100 := by omega
    have ha1 : 1 ≤ a := by omega
    have hd1 : 1 ≤ d := by omega
    have hd : d ≤ 100 := by omega
    have e1 : decide ((a : Int) < 1) = false := decide_eq_false (by omega)
    have e2 : decide (100 < (a : Int)) = false := decide_eq_false (by omega)
    have e3 : decide ((d : Int) < 1) = false := decide_eq_false (by omega)
    have e4 : decide (100 < (d : Int)) = false := decide_eq_false (by omega)
    rw [hc]
    clear ho hc hi hj hi' hj'
    go_enter Try.func46, Try.ntmps46
    go_wp2_with (go_at_call 30; refine cO.mono ?_; rintro e w3 ⟨rfl, hb3⟩)
    have hm := OwnL.nil_ (E := eSh) w3 w.heap.size 73
    have h0 := hb3
    clear hb3 e1 e2 e3 e4
    go_loopw [10, 34] (fun v i wr => ∃ k : Nat, k ≤ S.length ∧ i = .int .i64 k ∧ (∀ j, j < k → hN a d (sAt S j).2.toNat ≤ 24) ∧ OwnL eSh wr w.heap.size 73 v (tab (strF a d S) k) ∧ Below w.heap.size w wr) (fun _ i _ => S.length - (intOf i).toNat)
    case atStart => exact ⟨0, by omega, rfl, by omega, hm, h0⟩
    case round =>
      clear hm h0
      obtain ⟨k, hk, rfl, he, hown, hb⟩ := hrel
      have HE := Lib.hid he
      clear he
      by_cases hlt : k < S.length
      · obtain ⟨b1, o1, rfl, hb1, r1⟩ := hB (by omega)
        have g1 := range_below (range_part r1 (sAt_get hlt)) hb hb1
        rw [eSh_n] at g1
        have hh := okS_holds hok hlt
        have HU := Lib.hid (tab_succ (strF a d S) k)
        have hF : strF a d S k = ((sAt S k).1, ((hN a d (sAt S k).2.toNat : Nat) : Int)) := rfl
        have HB := Lib.hid (fun h => fine_bad (a := a) (d := d) hlt h)
        clear hB r1
        obtain ⟨x, y, hxy⟩ : ∃ x y, sAt S k = (x, y) := ⟨_, _, rfl⟩
        have hs1 : (sAt S k).1 = x := by rw [hxy]
        have hs2 : (sAt S k).2 = y := by rw [hxy]
        rw [hxy] at g1
        rw [hs1, hs2] at hh
        obtain ⟨m, rfl⟩ := Int.eq_ofNat_of_zero_le (show 0 ≤ y by omega)
        have HMM := Lib.hid (show (sAt S k).2.toNat = m by rw [hs2]; rfl)
        rw [hs1, hs2, Int.toNat_natCast] at hF
        have hm24 : m ≤ 24 := by omega
        clear hxy hs1 hs2
        have hz : m * a ≤ 2400 := by have := Nat.mul_le_mul hm24 ha; omega
        have k1 : IntKind.i64.wrap (m : Int) = m := IntWalk.i64_in _ (by omega)
        have k2 : IntKind.i64.wrap ((m : Int) * (a : Int)) = ((m * a : Nat) : Int) := by rw [IntWalk.i64_in _ (by rw [← Int.natCast_mul]; omega)]; rw [Int.natCast_mul]
        have hq2 : m * a / d ≤ 2400 := Nat.le_trans (Nat.div_le_self _ _) hz
        have k3 : wrap64 (((m * a : Nat) : Int) / (d : Int)) = ((m * a / d : Nat) : Int) := by rw [← Int.natCast_ediv]; exact wr64 hq2
        have hd0 : ((d : Int) == 0) = false := by simp; omega
        have hN1 : max (1 : Int) ((m * a / d : Nat) : Int) = ((hN a d m : Nat) : Int) := max_nat _
        have hll : (tab (strF a d S) k).length ≤ 1000 := by rw [tab_length]; omega
        have hsz := hb.size
        replace hown := hown.alloc (.cells (SC (x, (m : Int))) 73)
        replace hb := hb.alloc hb.size (.cells (SC (x, (m : Int))) 73)
        generalize hhv : hN a d m = hv at *
        generalize m * a = z at *
        generalize z / d = z2 at *
        by_cases hbig : 24 < hv
        · have e1 : decide (24 < (hv : Int)) = true := decide_eq_true (by omega)
          have HB' := Lib.hid (HB.out (by rw [HMM.out, hhv]; exact hbig))
          clear HB hhv HU hF
          go_wp2_with (refine wpList_load_el (E := eSh) rfl 73 _ rfl _ _ rfl (x, (m : Int)) #[.int .i8 x, .int .i8 m] rfl g1 Try.underlying73 rfl (by kernel_rfl) ?_)
          go_ret2
          rw [HB'.out, ifL1 _ (by decide)]
          exact ⟨_, rfl, OwnL.nil_ _ _ _, hb⟩
        · have e1 : decide (24 < (hv : Int)) = false := decide_eq_false (by omega)
          have k8 : IntKind.i8.wrap (hv : Int) = hv := IntWalk.i8_in _ (by omega)
          have HF := Lib.hid hF
          have HH := Lib.hid (show hN a d (sAt S k).2.toNat ≤ 24 by rw [HMM.out, hhv]; omega)
          clear HB hhv hF
          go_wp2_with (first | (refine wpList_load_el (E := eSh) rfl 73 _ rfl _ _ rfl (x, (m : Int)) #[.int .i8 x, .int .i8 m] rfl g1 Try.underlying73 rfl (by kernel_rfl) ?_) | (refine wpList_build1 (v := .agg (SC (x, (hv : Int)))) (cs := SC (x, (hv : Int))) rfl 40 73 _ rfl rfl (fun w => run_build_shs w (x, (hv : Int))) ?_) | (at_builtin; refine wpList_append_one rfl _ _ 40 rfl w.heap.size 73 Try.underlying40 infoShL rfl (by decide) (by omega) (hown.alloc (.cells (SC (x, (hv : Int))) 73)) rfl (x, (hv : Int)) rfl (range_new _ _ (SC (x, (hv : Int)))) (by omega) (by simp; omega) ?_; intro v' w6 hown' hgrow))
          go_roundw
          case rel =>
            go_light
            refine ⟨k + 1, by omega, by go_num, ?_, ?_, (hown.alloc _).grown_below (hb.alloc hb.size _) hgrow (Nat.le_refl _) (by simp; omega)⟩
            · intro j hj
              rcases Nat.lt_succ_iff_lt_or_eq.1 hj with h | rfl
              · exact HE.out j h
              · exact HH.out
            · rw [HU.out, HF.out]; exact hown'
          case measure => simp [intOf]; omega
      · have hkl : k = S.length := by omega
        subst hkl
        clear hB
        go_wp2
        go_ret2
        rw [fine_ok HE.out, ifL0]
        refine ⟨_, rfl, ?_, hb⟩
        unfold strL
        rw [Int.toNat_natCast, Int.toNat_natCast]
        exact hown
end Go.Proofs.Ythkpefdjhdemeac
