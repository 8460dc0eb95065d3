/- The laws' own helpers over []int64 that come in: toInt64S, intactInt64S. -/
import Derived.Test.YtajlkleoincoeabDoorLBook
import Derived.Test.YtajlkleoincoeabDoorLI64
namespace Go.Proofs.YtajlkleoincoeabDoor
set_option maxRecDepth 100000
open Go.RowKit
set_option linter.unusedVariables false
set_option linter.unusedSimpArgs false
theorem infoI64R : (Tryd.prog.info? 2).map (fun i => (i.zero, i.size, i.bytes)) = some (some (.int .i64 0), 1, 8) := by kernel_rfl
/-- What spare room is filled with. -/
def fillI : Int := -7000000000000000101
set_option maxHeartbeats 1000000 in
theorem toInt64S_any (v : Value) (L : List Int) (b : Bool) (w : World) (hL : L.length ≤ 1000000) (h : SlAt (eI .i64) w w.heap.size v L) (hb : b = false ∨ 0 < L.length) :
    Calls Tryd.prog 11 #[v, .bool b] w (MadeAt (eI .i64) 2 fillI L w) := by
  obtain ⟨A, c, rfl, h1, h2, hA⟩ := h
  obtain ⟨i0, hi, hz0, hz1, hz2⟩ := info_parts infoI64R
  have hr := roomN_le L.length
  generalize hR : roomN L.length = r at *
  generalize hn : L.length = n at *
  have hmk : ∀ w : World, (Instr.makeSlice 22 (.int .i64 ((n : Int) + (r : Int))) (.int .i64 ((n : Int) + (r : Int)))).run Tryd.prog w = .ok (.slice (some ⟨w.heap.size, 0, none⟩) (n + r) (n + r)) (w.alloc (.cells (madeCells #[.int .i64 0] (n + r)) 2)) := fun w => by
    have := run_make (P := Tryd.prog) w 22 2 i0 _ Tryd.underlying22 hi hz0 .i64 .i64 ((n + r : Nat) : Int) ((n + r : Nat) : Int) (by omega) (by omega) (by rw [hz2]; omega) (by omega)
    rw [hz1, Int.toNat_natCast, Int.natCast_add, Nat.mul_one] at this
    exact this
  have hmade := fun w : World => Held.made (E := (eI .i64)) w 2 (0 : Int) #[.int .i64 0] rfl (by decide) (n + r)
  simp only [show (eI .i64).n = 1 from rfl, Nat.mul_one] at hmade
  have hsl := run_slice_to (P := Tryd.prog) Tryd.underlying22 hi w.heap.size (n + r) (n + r) n .i64 (by omega)
  have hE : b = true → ((n : Int) == 0) = false := fun e => by
    rcases hb with h | h
    · rw [h] at e; cases e
    · simp; omega
  have HR := Lib.hid hR
  have HN := Lib.hid hn
  clear hR hn hb hz0 hz1 hz2 hi
  cases b
  case' true => have e0 := hE rfl
  all_goals
    clear hE
    go_enter Tryd.func11, Tryd.ntmps11
    go_wp2_with (go_at_call 42; refine (room_any _ _ hL).mono ?_; rintro e w' ⟨rfl, rfl⟩; rw [HR.out])
    have hh := hmade w
    have h0 := (Below.refl w.heap.size w).alloc (Nat.le_refl _) (.cells (madeCells #[.int .i64 0] (n + r)) 2)
    clear hmk hmade
    generalize (w.alloc (.cells (madeCells #[.int .i64 0] (n + r)) 2)) = w1 at *
    rw [replicate_tab] at hh
    go_loopw [6] (fun i wr => ∃ k : Nat, k ≤ n ∧ i = .int .i64 k ∧ Held (eI .i64) wr w.heap.size 2 (tab (fun i => if i < k then L.getD i 0 else 0) (n + r)) ∧ Below w.heap.size w wr) (fun i _ => n - (intOf i).toNat)
    case atStart => exact ⟨0, by omega, rfl, by simpa using hh, h0⟩
    case round =>
      clear hh h0
      obtain ⟨k, hk, rfl, hh, hb⟩ := hrel
      by_cases hlt : k < n
      · obtain ⟨b1, o1, rfl, hb1, r1⟩ := hA (by omega)
        have hkL : k < L.length := by rw [HN.out]; exact hlt
        have c1 := int_cell (range_below r1 hb hb1) hkL
        have c0 := hh.cell1 (tab_get _ (show k < n + r by omega)) rfl
        have f0 := hh.free k
        have hh' := hh.store1 (L.getD k 0) (i := k) (by rw [tab_length]; omega) rfl
        have hb' := hb.setCell (p := ⟨w.heap.size, k, none⟩) (Nat.le_refl _) (.int .i64 (L.getD k 0))
        clear hA r1 hkL hh hb
        have HH := Lib.hid hh'
        have HB := Lib.hid hb'
        clear hh' hb'
        go_wp2
        go_roundw
        case rel =>
          go_light
          refine ⟨k + 1, by omega, by go_num, HH.out.store_tab ?_, HB.out⟩
          intro i hi
          unfold updA
          by_cases e : i = k
          · subst e; simp
          · rw [if_neg e]; simp only [show i < k + 1 ↔ i < k by omega]
        case measure => simp [intOf]; omega
      · have hk' : k = n := by omega
        subst hk'
        clear hA
        go_wp2
        obtain ⟨wo, rfl⟩ : ∃ wo : World, wo = wr := ⟨_, rfl⟩
        go_loopw [7] (fun i wr => ∃ q : Nat, q ≤ r ∧ i = .int .i64 ((k + q : Nat) : Int) ∧ Held (eI .i64) wr w.heap.size 2 (tab (fun i => if i < k then L.getD i 0 else if i < k + q then fillI else 0) (k + r)) ∧ Below w.heap.size w wr) (fun i _ => k + r - (intOf i).toNat)
        case atStart => exact ⟨0, by omega, rfl, hh.tab_congr (fun i hi => by by_cases e : i < k <;> simp [e]), hb⟩
        case round =>
          clear hh hb
          obtain ⟨q, hq, rfl, hh, hb⟩ := hrel
          by_cases hlq : q < r
          · have c0 := hh.cell1 (tab_get _ (show k + q < k + r by omega)) rfl
            have f0 := hh.free (k + q)
            have hh' := hh.store1 fillI (i := k + q) (by rw [tab_length]; omega) rfl
            have hb' := hb.setCell (p := ⟨w.heap.size, k + q, none⟩) (Nat.le_refl _) (.int .i64 fillI)
            clear hh hb
            have HH := Lib.hid hh'
            have HB := Lib.hid hb'
            clear hh' hb'
            go_wp2
            go_roundw
            case rel =>
              go_light
              refine ⟨q + 1, by omega, by go_num, HH.out.store_tab ?_, HB.out⟩
              intro i hi
              unfold updA
              dsimp only
              by_cases e : i = k + q
              · subst e; rw [if_pos rfl, if_neg (by omega), if_pos (by omega)]
              · rw [if_neg e]
                by_cases e2 : i < k
                · rw [if_pos e2, if_pos e2]
                · rw [if_neg e2, if_neg e2]; simp only [show i < k + (q + 1) ↔ i < k + q by omega]
            case measure => simp [intOf]; omega
          · have hqr : q = r := by omega
            subst hqr
            go_wp2
            go_ret
            refine ⟨w.heap.size, by rw [HN.out, HR.out]; rfl, Nat.le_refl _, ?_, hb⟩
            rw [roomy_tab, HN.out, HR.out]
            rw [tab_congr (g := fun i => L.getD i fillI)] at hh
            · exact hh
            · intro i hi
              by_cases e : i < k
              · have hiL : i < L.length := by rw [HN.out]; exact e
                simp [e, hiL]
              · have hiL : ¬ i < L.length := by rw [HN.out]; exact e
                simp [e, hi, List.getElem?_eq_none (Nat.le_of_not_lt hiL)]
/-- The empty list, bare: nil. -/
theorem toInt64S_bare (v : Value) (L : List Int) (w : World) (h : SlAt (eI .i64) w w.heap.size v L) (h0 : L.length = 0) :
    Calls Tryd.prog 11 #[v, .bool true] w fun e w' => e = .returned (.slice none 0 0) ∧ w = w' := by
  obtain ⟨A, c, rfl, h1, h2, hA⟩ := h
  clear hA h1
  rw [h0]
  clear h0
  go_enter Tryd.func11, Tryd.ntmps11
  go_wp2
  go_ret
  exact ⟨rfl, rfl⟩
theorem toInt64S_sl (v : Value) (L : List Int) (b : Bool) (w : World) (hL : L.length ≤ 1000000) (h : SlAt (eI .i64) w w.heap.size v L) :
    Calls Tryd.prog 11 #[v, .bool b] w (GivesSl (eI .i64) L w) := by
  by_cases hb : b = false ∨ 0 < L.length
  · refine (toInt64S_any v L b w hL h hb).mono ?_
    rintro e w' ⟨g, rfl, hg, hh, hb'⟩
    exact ⟨_, rfl, (hh.sl (n := L.length) (by rw [roomy_length]; omega) (by omega) (by have := roomN_le L.length; unfold maxLen; omega)).roomy, hb'⟩
  · have h0 : L.length = 0 := by omega
    obtain rfl : b = true := by cases b <;> simp_all
    refine (toInt64S_bare v L w h h0).mono ?_
    rintro e w' ⟨rfl, rfl⟩
    obtain rfl : L = [] := List.eq_nil_of_length_eq_zero h0
    exact ⟨_, rfl, SlAt.nil_ (Nat.zero_le _) _, Below.refl _ _⟩
set_option maxHeartbeats 400000 in
theorem intactInt64S_any (g1 g2 : Nat) (L : List Int) (w : World) (hL : L.length ≤ 1000000) (h1 : Held (eI .i64) w g1 2 (roomy fillI L)) (h2 : Held (eI .i64) w g2 2 (roomy fillI L)) :
    Calls Tryd.prog 13 #[.slice (some ⟨g1, 0, none⟩) L.length (L.length + roomN L.length), .slice (some ⟨g2, 0, none⟩) L.length (L.length + roomN L.length)] w fun e w' => e = .returned (.bool true) ∧ Below w.heap.size w w' := by
  obtain ⟨i0, hi, hz0, hz1, hz2⟩ := info_parts infoI64R
  have hr := roomN_le L.length
  have hlen := roomy_length fillI L
  have s1 := h1.sl (n := (roomy fillI L).length) (c := (roomy fillI L).length) (Nat.le_refl _) (Nat.le_refl _) (by unfold maxLen; omega)
  have s2 := h2.sl (n := (roomy fillI L).length) (c := (roomy fillI L).length) (Nat.le_refl _) (Nat.le_refl _) (by unfold maxLen; omega)
  rw [List.take_of_length_le (Nat.le_refl _), hlen] at s1 s2
  have cE := fun w' (hb : Below w.heap.size w w') => eqInt64S_any _ _ _ _ w' (s1.later hb) (s2.later hb)
  rw [decide_eq_true rfl] at cE
  generalize hR : roomN L.length = r at *
  generalize L.length = n at *
  have q1 := run_slice_to (P := Tryd.prog) Tryd.underlying22 hi g1 n (n + r) (n + r) .i64 (Nat.le_refl _)
  have q2 := run_slice_to (P := Tryd.prog) Tryd.underlying22 hi g2 n (n + r) (n + r) .i64 (Nat.le_refl _)
  simp only [Int.natCast_add] at q1 q2
  have CE := Lib.hid cE
  have HR := Lib.hid hR
  clear cE hR hlen s1 s2 h1 h2 hi hz0 hz1 hz2
  go_enter Tryd.func13, Tryd.ntmps13
  go_wp2_with (go_at_call 42; refine (room_any _ _ hL).mono ?_; rintro e w' ⟨rfl, rfl⟩; rw [HR.out])
  refine wp_region_calm (by kernel_rfl) (by kernel_rfl) ?_
  repeat (quiet_step (exact Calls.regrown_of (CE.out _ (below_regrown _ _ _))))
  refine wpQuiet_nil ?_
  intro w3 hb3
  go_wp2
  go_ret
  exact ⟨rfl, hb3⟩
def ltI (L : List Int) : Prop := ∀ z ∈ L, (Lit.int .i64 z).wf = true
set_option maxHeartbeats 400000 in
theorem markInt64S_big (g n c : Nat) (k : Int) (w : World) (N : Nat) (hk : 0 ≤ k) (hk2 : k ≤ 1000000000) (hn : n ≤ 1000000) (hr : RowN w g 2 N) (hN : n * 1 ≤ N) :
    Calls Tryd.prog 17 #[.slice (some ⟨g, 0, none⟩) n c, .int .i64 k] w fun e w' => e = .returned (.int .i64 (k + ((n * 1 : Nat) : Int))) ∧ Marks w w' g 2 N (i64At k) n := by
  rw [Nat.mul_one] at hN ⊢
  have hm := Marks.start hr (i64At k)
  clear hr
  go_enter Tryd.func17, Tryd.ntmps17
  go_wp2
  go_loopw [1, 5] (fun kk i wr => ∃ p : Nat, p ≤ n ∧ i = .int .i64 p ∧ kk = .int .i64 (k + (p : Int)) ∧ Marks w wr g 2 N (i64At k) p) (fun _ i _ => n - (intOf i).toNat)
  case atStart => exact ⟨0, by omega, rfl, by simp, by simpa using hm⟩
  case round =>
    clear hm
    obtain ⟨p, hp, rfl, rfl, hm⟩ := hrel
    by_cases hlt : p < n
    · obtain ⟨u0, c0⟩ := hm.row.cell (q := p) (by omega)
      have f0 := hm.row.free p
      go_wp2
      go_roundw
      case rel =>
        go_light
        exact ⟨p + 1, by omega, by go_num, by go_num, hm.step (by omega) (by rfl)⟩
      case measure => simp [intOf]; omega
    · have hpn : p = n := by omega
      subst hpn
      go_wp2
      go_ret
      exact ⟨rfl, hm⟩
end Go.Proofs.YtajlkleoincoeabDoor
