/- The laws' own helpers over scenes: szScene, toScene, eqScene, intactScene. -/
import Derived.Test.YtpmlepgnokbpaaaLLay
import Derived.Test.YtpmlepgnokbpaaaLBook
import Derived.Test.YtpmlepgnokbpaaaLI64
namespace Go.Proofs.Ytpmlepgnokbpaaa
set_option maxRecDepth 100000
open Go.RowKit
set_option linter.unusedVariables false
theorem infoLy : (Try.prog.info? 86).map (fun i => (i.zero, i.size, i.bytes)) = some (some (.agg (LC zeroLy)), 27, 52) := by kernel_rfl
theorem szScene_from (A : Option Addr) (n c : Nat) (left : Int) (w : World) (hn : n ≤ maxLen) (h0 : 0 ≤ left) (h1 : left ≤ 1000000) :
    Calls Try.prog 18 #[.slice A n c, .int .i64 left] w fun e w' => e = .returned (.int .i64 (if (n : Int) ≤ left then left - (n : Int) else -1)) ∧ w = w' := by
  unfold maxLen at hn
  by_cases h : (n : Int) ≤ left
  · have h2 : 0 ≤ left - (n : Int) := by omega
    have hw : IntKind.i64.wrap (left - (n : Int)) = left - (n : Int) := IntWalk.i64_in _ (by omega)
    have hv : (if (n : Int) ≤ left then left - (n : Int) else -1) = left - (n : Int) := if_pos h
    rw [hv]
    clear hv h
    go_enter Try.func18, Try.ntmps18
    go_wp2
    go_ret
    exact ⟨rfl, rfl⟩
  · have h2 : left - (n : Int) < 0 := by omega
    have hw : IntKind.i64.wrap (left - (n : Int)) = left - (n : Int) := IntWalk.i64_in _ (by omega)
    have hv : (if (n : Int) ≤ left then left - (n : Int) else -1) = -1 := if_neg h
    rw [hv]
    clear hv h
    go_enter Try.func18, Try.ntmps18
    go_wp2
    go_ret
    exact ⟨rfl, rfl⟩
set_option maxHeartbeats 400000 in
theorem eqScene_same (u v : Value) (L : List Ly) (w : World) (hu : SlAt eLy w w.heap.size u L) (hv : SlAt eLy w w.heap.size v L) :
    Calls Try.prog 61 #[u, v] w fun e w' => e = .returned (.bool true) ∧ Below w.heap.size w w' := by
  obtain ⟨A, c, rfl, h1, h2, hA⟩ := hu
  obtain ⟨B, d, rfl, h3, h4, hB⟩ := hv
  unfold maxLen at h2 h4
  have e1 : ((L.length : Int) != (L.length : Int)) = false := by simp
  go_enter Try.func61, Try.ntmps61
  go_wp2
  go_loopw [5] (fun i wr => ∃ k : Nat, k ≤ L.length ∧ i = .int .i64 k ∧ Below w.heap.size w wr) (fun i _ => L.length - (intOf i).toNat)
  case atStart => exact ⟨0, by omega, rfl, Below.refl _ _⟩
  case round =>
    obtain ⟨k, hk, rfl, hb⟩ := hrel
    by_cases hlt : k < L.length
    · obtain ⟨b1, o1, rfl, hb1, r1⟩ := hA (by omega)
      obtain ⟨b2, o2, rfl, hb2, r2⟩ := hB (by omega)
      have g1 := range_below (range_part r1 (lAt_get hlt)) hb hb1
      have g2 := range_below (range_part r2 (lAt_get hlt)) hb hb2
      have l1 : b1 < wr.heap.size := Nat.lt_of_lt_of_le hb1 hb.size
      have l2 : b2 < wr.heap.size := Nat.lt_of_lt_of_le hb2 hb.size
      rw [eLy_n] at g1 g2
      clear hA hB r1 r2
      go_wp2_with fail
      refine wp_region_calm (by kernel_rfl) (by kernel_rfl) ?_
      repeat (first | (refine wpQuiet_load_el (E := eLy) rfl 86 _ rfl _ _ rfl (lAt L k) (LC (lAt L k)) rfl (by first | with_reducible exact g1 | with_reducible exact g2) (by first | exact l1 | exact l2) Try.underlying86 rfl (by kernel_rfl) ?_) | quiet_step (exact Calls.regrown_of (eqLayer_same _ _)))
      refine wpQuiet_nil ?_
      intro w3 hb3
      replace hb := grown_below hb hb3 hb.size
      clear g1 g2 hb3
      go_wp2
      go_roundw
      case rel =>
        go_light
        exact ⟨k + 1, by omega, by go_num, hb⟩
      case measure => simp [intOf]; omega
    · go_wp2
      go_ret
      exact ⟨rfl, hb⟩
set_option maxHeartbeats 1000000 in
theorem toScene_any (v : Value) (L : List Ly) (b : Bool) (w : World) (hL : L.length ≤ 1000000) (h : SlAt eLy w w.heap.size v L) (hb : b = false ∨ 0 < L.length) :
    Calls Try.prog 20 #[v, .bool b] w (MadeAt eLy 86 fillLy L w) := by
  obtain ⟨A, c, rfl, h1, h2, hA⟩ := h
  obtain ⟨i0, hi, hz0, hz1, hz2⟩ := info_parts infoLy
  have hr := roomN_le L.length
  generalize hR : roomN L.length = r at *
  generalize hn : L.length = n at *
  have hmk : ∀ w : World, (Instr.makeSlice 36 (.int .i64 ((n : Int) + (r : Int))) (.int .i64 ((n : Int) + (r : Int)))).run Try.prog w = .ok (.slice (some ⟨w.heap.size, 0, none⟩) (n + r) (n + r)) (w.alloc (.cells (madeCells (LC zeroLy) ((n + r) * 27)) 86)) := fun w => by
    have := run_make (P := Try.prog) w 36 86 i0 _ Try.underlying36 hi hz0 .i64 .i64 ((n + r : Nat) : Int) ((n + r : Nat) : Int) (by omega) (by omega) (by rw [hz2]; omega) (by omega)
    rw [hz1, Int.toNat_natCast, Int.natCast_add] at this
    exact this
  have hmade := fun w : World => Held.made (E := eLy) w 86 zeroLy (LC zeroLy) rfl (by decide) (n + r)
  have hsl := run_slice_to (P := Try.prog) Try.underlying36 hi w.heap.size (n + r) (n + r) n .i64 (by omega)
  have hE : b = true → ((n : Int) == 0) = false := fun e => by
    rcases hb with h | h
    · rw [h] at e; cases e
    · simp; omega
  have HR := Lib.hid hR
  have HN := Lib.hid hn
  clear hR hn hb hz0 hz1 hz2 hi
  cases b
  case' true => have e0 := hE rfl
  all_goals
    clear hE
    go_enter Try.func20, Try.ntmps20
    go_wp2_with (go_at_call 57; refine (room_any _ _ hL).mono ?_; rintro e w' ⟨rfl, rfl⟩; rw [HR.out])
    have hh := hmade w
    have h0 := (Below.refl w.heap.size w).alloc (Nat.le_refl _) (.cells (madeCells (LC zeroLy) ((n + r) * 27)) 86)
    clear hmk hmade
    rw [eLy_n] at hh
    generalize (w.alloc (.cells (madeCells (LC zeroLy) ((n + r) * 27)) 86)) = w1 at *
    rw [replicate_tab] at hh
    go_loopw [6] (fun i wr => ∃ k : Nat, k ≤ n ∧ i = .int .i64 k ∧ Held eLy wr w.heap.size 86 (tab (fun i => if i < k then lAt L i else zeroLy) (n + r)) ∧ Below w.heap.size w wr) (fun i _ => n - (intOf i).toNat)
    case atStart => exact ⟨0, by omega, rfl, by simpa using hh, h0⟩
    case round =>
      clear hh h0
      obtain ⟨k, hk, rfl, hh, hb⟩ := hrel
      by_cases hlt : k < n
      · obtain ⟨b1, o1, rfl, hb1, r1⟩ := hA (by omega)
        have hkL : k < L.length := by rw [HN.out]; exact hlt
        have g1 := range_below (range_part r1 (lAt_get hkL)) hb hb1
        rw [eLy_n] at g1
        clear hA r1 hkL
        go_wp2_with (first | (refine wpList_load_el (E := eLy) rfl 89 _ rfl _ _ rfl (lAt L k) (LC (lAt L k)) rfl g1 Try.underlying89 rfl (by kernel_rfl) ?_) | (go_at_call 58; refine (toLayer_any _ _).mono ?_; rintro e w2 ⟨rfl, hb2⟩; replace hh := hh.below hb2 hh.lt; replace hb := grown_below hb hb2 hb.size; clear hb2 g1) | (refine wpList_store_held rfl 86 _ _ rfl hh (i := k) (by rw [tab_length]; omega) rfl rfl (lAt L k) rfl rfl (by kernel_rfl) ?_; intro hh' hw'; replace hb := hw'.below hb (Nat.le_refl _) hb.size; clear hh hw'))
        go_roundw
        case rel =>
          go_light
          refine ⟨k + 1, by omega, by go_num, hh'.store_tab ?_, hb⟩
          intro i hi
          unfold updA
          by_cases e : i = k
          · subst e; simp
          · rw [if_neg e]; simp only [show i < k + 1 ↔ i < k by omega]
        case measure => simp [intOf]; omega
      · have hk' : k = n := by omega
        subst hk'
        clear hA
        go_wp2
        obtain ⟨wo, rfl⟩ : ∃ wo : World, wo = wr := ⟨_, rfl⟩
        go_loopw [7] (fun i wr => ∃ q : Nat, q ≤ r ∧ i = .int .i64 ((k + q : Nat) : Int) ∧ Held eLy wr w.heap.size 86 (tab (fun i => if i < k then lAt L i else if i < k + q then fillLy else zeroLy) (k + r)) ∧ Below w.heap.size w wr) (fun i _ => k + r - (intOf i).toNat)
        case atStart => exact ⟨0, by omega, rfl, hh.tab_congr (fun i hi => by by_cases e : i < k <;> simp [e]), hb⟩
        case round =>
          clear hh hb
          obtain ⟨q, hq, rfl, hh, hb⟩ := hrel
          by_cases hlq : q < r
          · go_wp2_with (first | (go_at_call 59; refine (fillerLay_any _).mono ?_; rintro e w2 ⟨rfl, hb2⟩; replace hh := hh.below hb2 hh.lt; replace hb := grown_below hb hb2 hb.size; clear hb2) | (refine wpList_store_held rfl 86 _ _ rfl hh (i := k + q) (by rw [tab_length]; omega) rfl rfl fillLy rfl rfl (by kernel_rfl) ?_; intro hh' hw'; replace hb := hw'.below hb (Nat.le_refl _) hb.size; clear hh hw'))
            go_roundw
            case rel =>
              go_light
              refine ⟨q + 1, by omega, by go_num, hh'.store_tab ?_, hb⟩
              intro i hi
              unfold updA
              dsimp only
              by_cases e : i = k + q
              · subst e; rw [if_pos rfl, if_neg (by omega), if_pos (by omega)]
              · rw [if_neg e]
                by_cases e2 : i < k
                · rw [if_pos e2, if_pos e2]
                · rw [if_neg e2, if_neg e2]; simp only [show i < k + (q + 1) ↔ i < k + q by omega]
            case measure => simp [intOf]; omega
          · have hqr : q = r := by omega
            subst hqr
            go_wp2
            go_ret
            refine ⟨w.heap.size, by rw [HN.out, HR.out]; rfl, Nat.le_refl _, ?_, hb⟩
            rw [roomy_tab, HN.out, HR.out]
            rw [tab_congr (g := fun i => L.getD i fillLy)] at hh
            · exact hh
            · intro i hi
              by_cases e : i < k
              · have hiL : i < L.length := by rw [HN.out]; exact e
                simp [e, lAt, hiL]
              · have hiL : ¬ i < L.length := by rw [HN.out]; exact e
                simp [e, hi, List.getElem?_eq_none (Nat.le_of_not_lt hiL)]
/-- The empty list, bare: nil. -/
theorem toScene_bare (v : Value) (L : List Ly) (w : World) (h : SlAt eLy w w.heap.size v L) (h0 : L.length = 0) :
    Calls Try.prog 20 #[v, .bool true] w fun e w' => e = .returned (.slice none 0 0) ∧ w = w' := by
  obtain ⟨A, c, rfl, h1, h2, hA⟩ := h
  clear hA h1
  rw [h0]
  clear h0
  go_enter Try.func20, Try.ntmps20
  go_wp2
  go_ret
  exact ⟨rfl, rfl⟩
theorem toScene_sl (v : Value) (L : List Ly) (b : Bool) (w : World) (hL : L.length ≤ 1000000) (h : SlAt eLy w w.heap.size v L) :
    Calls Try.prog 20 #[v, .bool b] w (GivesSl eLy L w) := by
  by_cases hb : b = false ∨ 0 < L.length
  · refine (toScene_any v L b w hL h hb).mono ?_
    rintro e w' ⟨g, rfl, hg, hh, hb'⟩
    exact ⟨_, rfl, (hh.sl (n := L.length) (by rw [roomy_length]; omega) (by omega) (by have := roomN_le L.length; unfold maxLen; omega)).roomy, hb'⟩
  · have h0 : L.length = 0 := by omega
    obtain rfl : b = true := by cases b <;> simp_all
    refine (toScene_bare v L w h h0).mono ?_
    rintro e w' ⟨rfl, rfl⟩
    obtain rfl : L = [] := List.eq_nil_of_length_eq_zero h0
    exact ⟨_, rfl, SlAt.nil_ (Nat.zero_le _) _, Below.refl _ _⟩
set_option maxHeartbeats 400000 in
theorem intactScene_any (g1 g2 : Nat) (L : List Ly) (w : World) (hL : L.length ≤ 1000000) (h1 : Held eLy w g1 86 (roomy fillLy L)) (h2 : Held eLy w g2 86 (roomy fillLy L)) :
    Calls Try.prog 22 #[.slice (some ⟨g1, 0, none⟩) L.length (L.length + roomN L.length), .slice (some ⟨g2, 0, none⟩) L.length (L.length + roomN L.length)] w fun e w' => e = .returned (.bool true) ∧ Below w.heap.size w w' := by
  obtain ⟨i0, hi, hz0, hz1, hz2⟩ := info_parts infoLy
  have hr := roomN_le L.length
  have hlen := roomy_length fillLy L
  have s1 := h1.sl (n := (roomy fillLy L).length) (c := (roomy fillLy L).length) (Nat.le_refl _) (Nat.le_refl _) (by unfold maxLen; omega)
  have s2 := h2.sl (n := (roomy fillLy L).length) (c := (roomy fillLy L).length) (Nat.le_refl _) (Nat.le_refl _) (by unfold maxLen; omega)
  rw [List.take_of_length_le (Nat.le_refl _), hlen] at s1 s2
  have cE := fun w' (hb : Below w.heap.size w w') => eqScene_same _ _ _ w' (s1.later hb) (s2.later hb)
  generalize hR : roomN L.length = r at *
  generalize L.length = n at *
  have q1 := run_slice_to (P := Try.prog) Try.underlying36 hi g1 n (n + r) (n + r) .i64 (Nat.le_refl _)
  have q2 := run_slice_to (P := Try.prog) Try.underlying36 hi g2 n (n + r) (n + r) .i64 (Nat.le_refl _)
  simp only [Int.natCast_add] at q1 q2
  have CE := Lib.hid cE
  have HR := Lib.hid hR
  clear cE hR hlen s1 s2 h1 h2 hi hz0 hz1 hz2
  go_enter Try.func22, Try.ntmps22
  go_wp2_with (go_at_call 57; refine (room_any _ _ hL).mono ?_; rintro e w' ⟨rfl, rfl⟩; rw [HR.out])
  refine wp_region_calm (by kernel_rfl) (by kernel_rfl) ?_
  repeat (quiet_step (exact Calls.regrown_of (CE.out _ (below_regrown _ _ _))))
  refine wpQuiet_nil ?_
  intro w3 hb3
  go_wp2
  go_ret
  exact ⟨rfl, hb3⟩
end Go.Proofs.Ytpmlepgnokbpaaa
