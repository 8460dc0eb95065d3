/- The laws' own helpers over []Change. -/
import Derived.Test.YtjbjbdkmomkclaaChg0
import Derived.Test.YtjbjbdkmomkclaaLBook
import Derived.Test.YtjbjbdkmomkclaaLI64
namespace Go.Proofs.Ytjbjbdkmomkclaa
set_option maxRecDepth 100000
open Go.RowKit
set_option linter.unusedVariables false
theorem infoCg : (Try.prog.info? 113).map (fun i => (i.zero, i.size, i.bytes)) = some (some (.agg (CgC zeroCg)), 2, 4) := by kernel_rfl
theorem szChangeS_from (A : Option Addr) (n c : Nat) (left : Int) (w : World) (hn : n ≤ maxLen) (h0 : 0 ≤ left) (h1 : left ≤ 1000000) :
    Calls Try.prog 78 #[.slice A n c, .int .i64 left] w fun e w' => e = .returned (.int .i64 (if (n : Int) ≤ left then left - (n : Int) else -1)) ∧ w = w' := by
  unfold maxLen at hn
  by_cases h : (n : Int) ≤ left
  · have h2 : 0 ≤ left - (n : Int) := by omega
    have hw : IntKind.i64.wrap (left - (n : Int)) = left - (n : Int) := IntWalk.i64_in _ (by omega)
    have hv : (if (n : Int) ≤ left then left - (n : Int) else -1) = left - (n : Int) := if_pos h
    rw [hv]
    clear hv h
    go_enter Try.func78, Try.ntmps78
    go_wp2
    go_ret
    exact ⟨rfl, rfl⟩
  · have h2 : left - (n : Int) < 0 := by omega
    have hw : IntKind.i64.wrap (left - (n : Int)) = left - (n : Int) := IntWalk.i64_in _ (by omega)
    have hv : (if (n : Int) ≤ left then left - (n : Int) else -1) = -1 := if_neg h
    rw [hv]
    clear hv h
    go_enter Try.func78, Try.ntmps78
    go_wp2
    go_ret
    exact ⟨rfl, rfl⟩
set_option maxHeartbeats 400000 in
theorem eqChangeS_any (u v : Value) (L M : List (Int × Int)) (w : World) (hu : SlAt eCg w w.heap.size u L) (hv : SlAt eCg w w.heap.size v M) :
    Calls Try.prog 97 #[u, v] w fun e w' => e = .returned (.bool (decide (L = M))) ∧ Below w.heap.size w w' := by
  obtain ⟨A, c, rfl, h1, h2, hA⟩ := hu
  obtain ⟨B, d, rfl, h3, h4, hB⟩ := hv
  unfold maxLen at h2 h4
  by_cases hl : L.length = M.length
  · have e1 : ((L.length : Int) != (M.length : Int)) = false := by simp [hl]
    have HL := Lib.hid hl
    clear hl
    go_enter Try.func97, Try.ntmps97
    go_wp2
    go_loopw [5] (fun i wr => ∃ k : Nat, k ≤ L.length ∧ i = .int .i64 k ∧ (∀ j, j < k → cgAt L j = cgAt M j) ∧ Below w.heap.size w wr) (fun i _ => L.length - (intOf i).toNat)
    case atStart => exact ⟨0, by omega, rfl, by omega, Below.refl _ _⟩
    case round =>
      obtain ⟨k, hk, rfl, he, hb⟩ := hrel
      have HE := Lib.hid he
      clear he
      by_cases hlt : k < L.length
      · have hltM : k < M.length := by rw [← HL.out]; exact hlt
        obtain ⟨b1, o1, rfl, hb1, r1⟩ := hA (by omega)
        obtain ⟨b2, o2, rfl, hb2, r2⟩ := hB (by omega)
        have g1 := range_below (range_part r1 (cgAt_get hlt)) hb hb1
        have g2 := range_below (range_part r2 (cgAt_get hltM)) hb hb2
        have l1 : b1 < wr.heap.size := Nat.lt_of_lt_of_le hb1 hb.size
        have l2 : b2 < wr.heap.size := Nat.lt_of_lt_of_le hb2 hb.size
        rw [eCg_n] at g1 g2
        clear hA hB r1 r2
        go_wp2_with fail
        refine wp_region_calm (by kernel_rfl) (by kernel_rfl) ?_
        repeat (first | (first | refine wpQuiet_load_el (E := eCg) rfl 113 _ rfl _ _ rfl (cgAt L k) (CgC (cgAt L k)) rfl g1 l1 Try.underlying113 rfl (by kernel_rfl) ?_ | refine wpQuiet_load_el (E := eCg) rfl 113 _ rfl _ _ rfl (cgAt M k) (CgC (cgAt M k)) rfl g2 l2 Try.underlying113 rfl (by kernel_rfl) ?_) | quiet_step (exact Calls.regrown_of (eqChange_any _ _ _)))
        refine wpQuiet_nil ?_
        intro w3 hb3
        replace hb := grown_below hb hb3 hb.size
        clear g1 g2 hb3
        cases hq : decide (cgAt L k = cgAt M k) with
        | true =>
          have HQ := Lib.hid (of_decide_eq_true hq)
          clear hq
          go_wp2
          go_roundw
          case rel =>
            go_light
            refine ⟨k + 1, by omega, by go_num, ?_, hb⟩
            intro j hj
            rcases Nat.lt_succ_iff_lt_or_eq.1 hj with h | rfl
            · exact HE.out j h
            · exact HQ.out
          case measure => simp [intOf]; omega
        | false =>
          have HQ := Lib.hid (show L ≠ M from fun e => of_decide_eq_false hq (by rw [e]))
          clear hq
          go_wp2
          go_ret
          exact ⟨ret_bool (by rw [decide_eq_false HQ.out]), hb⟩
      · go_wp2
        go_ret
        have hkl : k = L.length := by omega
        subst hkl
        exact ⟨ret_bool (by rw [decide_eq_true (eq_of_getD (z := zeroCg) HL.out HE.out)]), hb⟩
  · have e1 : ((L.length : Int) != (M.length : Int)) = true := by simp; omega
    have HL := Lib.hid hl
    clear hl
    go_enter Try.func97, Try.ntmps97
    go_wp2
    go_ret
    exact ⟨ret_bool (by rw [decide_eq_false (fun e => HL.out (by rw [e]))]), Below.refl _ _⟩
theorem eqChangeS_same (u v : Value) (L : List (Int × Int)) (w : World) (hu : SlAt eCg w w.heap.size u L) (hv : SlAt eCg w w.heap.size v L) :
    Calls Try.prog 97 #[u, v] w fun e w' => e = .returned (.bool true) ∧ Below w.heap.size w w' := by
  have := eqChangeS_any u v L L w hu hv
  rw [decide_eq_true rfl] at this
  exact this
set_option maxHeartbeats 1000000 in
theorem toChangeS_any (v : Value) (L : List (Int × Int)) (b : Bool) (w : World) (hL : L.length ≤ 1000000) (h : SlAt eCg w w.heap.size v L) (hb : b = false ∨ 0 < L.length) :
    Calls Try.prog 80 #[v, .bool b] w (MadeAt eCg 113 fillCg L w) := by
  obtain ⟨A, c, rfl, h1, h2, hA⟩ := h
  obtain ⟨i0, hi, hz0, hz1, hz2⟩ := info_parts infoCg
  have hr := roomN_le L.length
  generalize hR : roomN L.length = r at *
  generalize hn : L.length = n at *
  have hmk : ∀ w : World, (Instr.makeSlice 69 (.int .i64 ((n : Int) + (r : Int))) (.int .i64 ((n : Int) + (r : Int)))).run Try.prog w = .ok (.slice (some ⟨w.heap.size, 0, none⟩) (n + r) (n + r)) (w.alloc (.cells (madeCells (CgC zeroCg) ((n + r) * 2)) 113)) := fun w => by
    have := run_make (P := Try.prog) w 69 113 i0 _ Try.underlying69 hi hz0 .i64 .i64 ((n + r : Nat) : Int) ((n + r : Nat) : Int) (by omega) (by omega) (by rw [hz2]; omega) (by omega)
    rw [hz1, Int.toNat_natCast, Int.natCast_add] at this
    exact this
  have hmade := fun w : World => Held.made (E := eCg) w 113 zeroCg (CgC zeroCg) rfl (by decide) (n + r)
  have hsl := run_slice_to (P := Try.prog) Try.underlying69 hi w.heap.size (n + r) (n + r) n .i64 (by omega)
  have hE : b = true → ((n : Int) == 0) = false := fun e => by
    rcases hb with h | h
    · rw [h] at e; cases e
    · simp; omega
  have HR := Lib.hid hR
  have HN := Lib.hid hn
  clear hR hn hb hz0 hz1 hz2 hi
  cases b
  case' true => have e0 := hE rfl
  all_goals
    clear hE
    go_enter Try.func80, Try.ntmps80
    go_wp2_with (go_at_call 42; refine (room_any _ _ hL).mono ?_; rintro e w' ⟨rfl, rfl⟩; rw [HR.out])
    have hh := hmade w
    have h0 := (Below.refl w.heap.size w).alloc (Nat.le_refl _) (.cells (madeCells (CgC zeroCg) ((n + r) * 2)) 113)
    clear hmk hmade
    rw [eCg_n] at hh
    generalize (w.alloc (.cells (madeCells (CgC zeroCg) ((n + r) * 2)) 113)) = w1 at *
    rw [replicate_tab] at hh
    go_loopw [6] (fun i wr => ∃ k : Nat, k ≤ n ∧ i = .int .i64 k ∧ Held eCg wr w.heap.size 113 (tab (fun i => if i < k then cgAt L i else zeroCg) (n + r)) ∧ Below w.heap.size w wr) (fun i _ => n - (intOf i).toNat)
    case atStart => exact ⟨0, by omega, rfl, by simpa using hh, h0⟩
    case round =>
      clear hh h0
      obtain ⟨k, hk, rfl, hh, hb⟩ := hrel
      by_cases hlt : k < n
      · obtain ⟨b1, o1, rfl, hb1, r1⟩ := hA (by omega)
        have hkL : k < L.length := by rw [HN.out]; exact hlt
        have g1 := range_below (range_part r1 (cgAt_get hkL)) hb hb1
        rw [eCg_n] at g1
        clear hA r1 hkL
        go_wp2_with (first | (refine wpList_load_el (E := eCg) rfl 131 _ rfl _ _ rfl (cgAt L k) (CgC (cgAt L k)) rfl g1 Try.underlying131 rfl (by kernel_rfl) ?_) | (go_at_call 96; refine (toChange_any _ _).mono ?_; rintro e w2 ⟨rfl, hb2⟩; replace hh := hh.below hb2 hh.lt; replace hb := grown_below hb hb2 hb.size; clear hb2 g1) | (refine wpList_store_held rfl 113 _ _ rfl hh (i := k) (by rw [tab_length]; omega) rfl rfl (cgAt L k) rfl rfl (by kernel_rfl) ?_; intro hh' hw'; replace hb := hw'.below hb (Nat.le_refl _) hb.size; clear hh hw'))
        go_roundw
        case rel =>
          go_light
          refine ⟨k + 1, by omega, by go_num, hh'.store_tab ?_, hb⟩
          intro i hi
          unfold updA
          by_cases e : i = k
          · subst e; simp
          · rw [if_neg e]; simp only [show i < k + 1 ↔ i < k by omega]
        case measure => simp [intOf]; omega
      · have hk' : k = n := by omega
        subst hk'
        clear hA
        go_wp2
        obtain ⟨wo, rfl⟩ : ∃ wo : World, wo = wr := ⟨_, rfl⟩
        go_loopw [7] (fun i wr => ∃ q : Nat, q ≤ r ∧ i = .int .i64 ((k + q : Nat) : Int) ∧ Held eCg wr w.heap.size 113 (tab (fun i => if i < k then cgAt L i else if i < k + q then fillCg else zeroCg) (k + r)) ∧ Below w.heap.size w wr) (fun i _ => k + r - (intOf i).toNat)
        case atStart => exact ⟨0, by omega, rfl, hh.tab_congr (fun i hi => by by_cases e : i < k <;> simp [e]), hb⟩
        case round =>
          clear hh hb
          obtain ⟨q, hq, rfl, hh, hb⟩ := hrel
          by_cases hlq : q < r
          · go_wp2_with (first | (go_at_call 81; refine (fillerCg_any _).mono ?_; rintro e w2 ⟨rfl, hb2⟩; replace hh := hh.below hb2 hh.lt; replace hb := grown_below hb hb2 hb.size; clear hb2) | (refine wpList_store_held rfl 113 _ _ rfl hh (i := k + q) (by rw [tab_length]; omega) rfl rfl fillCg rfl rfl (by kernel_rfl) ?_; intro hh' hw'; replace hb := hw'.below hb (Nat.le_refl _) hb.size; clear hh hw'))
            go_roundw
            case rel =>
              go_light
              refine ⟨q + 1, by omega, by go_num, hh'.store_tab ?_, hb⟩
              intro i hi
              unfold updA
              dsimp only
              by_cases e : i = k + q
              · subst e; rw [if_pos rfl, if_neg (by omega), if_pos (by omega)]
              · rw [if_neg e]
                by_cases e2 : i < k
                · rw [if_pos e2, if_pos e2]
                · rw [if_neg e2, if_neg e2]; simp only [show i < k + (q + 1) ↔ i < k + q by omega]
            case measure => simp [intOf]; omega
          · have hqr : q = r := by omega
            subst hqr
            go_wp2
            go_ret
            refine ⟨w.heap.size, by rw [HN.out, HR.out]; rfl, Nat.le_refl _, ?_, hb⟩
            rw [roomy_tab, HN.out, HR.out]
            rw [tab_congr (g := fun i => L.getD i fillCg)] at hh
            · exact hh
            · intro i hi
              by_cases e : i < k
              · have hiL : i < L.length := by rw [HN.out]; exact e
                simp [e, cgAt, hiL]
              · have hiL : ¬ i < L.length := by rw [HN.out]; exact e
                simp [e, hi, List.getElem?_eq_none (Nat.le_of_not_lt hiL)]
/-- The empty list, bare: nil. -/
theorem toChangeS_bare (v : Value) (L : List (Int × Int)) (w : World) (h : SlAt eCg w w.heap.size v L) (h0 : L.length = 0) :
    Calls Try.prog 80 #[v, .bool true] w fun e w' => e = .returned (.slice none 0 0) ∧ w = w' := by
  obtain ⟨A, c, rfl, h1, h2, hA⟩ := h
  clear hA h1
  rw [h0]
  clear h0
  go_enter Try.func80, Try.ntmps80
  go_wp2
  go_ret
  exact ⟨rfl, rfl⟩
theorem toChangeS_sl (v : Value) (L : List (Int × Int)) (b : Bool) (w : World) (hL : L.length ≤ 1000000) (h : SlAt eCg w w.heap.size v L) :
    Calls Try.prog 80 #[v, .bool b] w (GivesSl eCg L w) := by
  by_cases hb : b = false ∨ 0 < L.length
  · refine (toChangeS_any v L b w hL h hb).mono ?_
    rintro e w' ⟨g, rfl, hg, hh, hb'⟩
    exact ⟨_, rfl, (hh.sl (n := L.length) (by rw [roomy_length]; omega) (by omega) (by have := roomN_le L.length; unfold maxLen; omega)).roomy, hb'⟩
  · have h0 : L.length = 0 := by omega
    obtain rfl : b = true := by cases b <;> simp_all
    refine (toChangeS_bare v L w h h0).mono ?_
    rintro e w' ⟨rfl, rfl⟩
    obtain rfl : L = [] := List.eq_nil_of_length_eq_zero h0
    exact ⟨_, rfl, SlAt.nil_ (Nat.zero_le _) _, Below.refl _ _⟩
set_option maxHeartbeats 400000 in
theorem intactChangeS_any (g1 g2 : Nat) (L : List (Int × Int)) (w : World) (hL : L.length ≤ 1000000) (h1 : Held eCg w g1 113 (roomy fillCg L)) (h2 : Held eCg w g2 113 (roomy fillCg L)) :
    Calls Try.prog 83 #[.slice (some ⟨g1, 0, none⟩) L.length (L.length + roomN L.length), .slice (some ⟨g2, 0, none⟩) L.length (L.length + roomN L.length)] w fun e w' => e = .returned (.bool true) ∧ Below w.heap.size w w' := by
  obtain ⟨i0, hi, hz0, hz1, hz2⟩ := info_parts infoCg
  have hr := roomN_le L.length
  have hlen := roomy_length fillCg L
  have s1 := h1.sl (n := (roomy fillCg L).length) (c := (roomy fillCg L).length) (Nat.le_refl _) (Nat.le_refl _) (by unfold maxLen; omega)
  have s2 := h2.sl (n := (roomy fillCg L).length) (c := (roomy fillCg L).length) (Nat.le_refl _) (Nat.le_refl _) (by unfold maxLen; omega)
  rw [List.take_of_length_le (Nat.le_refl _), hlen] at s1 s2
  have cE := fun w' (hb : Below w.heap.size w w') => eqChangeS_same _ _ _ w' (s1.later hb) (s2.later hb)
  generalize hR : roomN L.length = r at *
  generalize L.length = n at *
  have q1 := run_slice_to (P := Try.prog) Try.underlying69 hi g1 n (n + r) (n + r) .i64 (Nat.le_refl _)
  have q2 := run_slice_to (P := Try.prog) Try.underlying69 hi g2 n (n + r) (n + r) .i64 (Nat.le_refl _)
  simp only [Int.natCast_add] at q1 q2
  have CE := Lib.hid cE
  have HR := Lib.hid hR
  clear cE hR hlen s1 s2 h1 h2 hi hz0 hz1 hz2
  go_enter Try.func83, Try.ntmps83
  go_wp2_with (go_at_call 42; refine (room_any _ _ hL).mono ?_; rintro e w' ⟨rfl, rfl⟩; rw [HR.out])
  refine wp_region_calm (by kernel_rfl) (by kernel_rfl) ?_
  repeat (quiet_step (exact Calls.regrown_of (CE.out _ (below_regrown _ _ _))))
  refine wpQuiet_nil ?_
  intro w3 hb3
  go_wp2
  go_ret
  exact ⟨rfl, hb3⟩
end Go.Proofs.Ytjbjbdkmomkclaa
