/- The laws' own helpers over books: roomBehind, szBook, eqBook. -/
import Derived.Test.YtjbjbdkmomkclaaRows
import Derived.Test.YtjbjbdkmomkclaaL1
import Derived.Test.YtjbjbdkmomkclaaMem
import Derived.Test.YtjbjbdkmomkclaaRoom
namespace Go.Proofs.Ytjbjbdkmomkclaa
set_option maxRecDepth 100000
open Go.RowKit
set_option linter.unusedVariables false
theorem room_any (n : Nat) (w : World) (h : n ≤ 1000000) :
    Calls Try.prog 42 #[.int .i64 n] w fun e w' => e = .returned (.int .i64 (roomN n)) ∧ w = w' := by
  by_cases h6 : n % 6 = 5
  · have h1 : ((n : Int) % 6 == 5) = true := by simp; omega
    have hv : roomN n = 0 := by simp [roomN, h6]
    go_enter Try.func42, Try.ntmps42
    go_wp2
    go_ret
    exact ⟨ret_int (by rw [hv]; rfl), rfl⟩
  · have h1 : ((n : Int) % 6 == 5) = false := by simp; omega
    by_cases h3 : n % 3 = 0
    · have h2 : ((n : Int) % 3 == 0) = true := by simp; omega
      have hv : roomN n = 1 := by simp [roomN, h6, h3]
      clear h6 h3
      go_enter Try.func42, Try.ntmps42
      go_wp2
      go_ret
      exact ⟨ret_int (by rw [hv]; rfl), rfl⟩
    · have h2 : ((n : Int) % 3 == 0) = false := by simp; omega
      have hv : roomN n = n := by simp [roomN, h6, h3]
      clear h6 h3
      have HV := Lib.hid hv
      clear hv
      go_enter Try.func42, Try.ntmps42
      go_wp2
      go_ret
      exact ⟨ret_int (by rw [HV.out]), rfl⟩
theorem szBook_any (A : Option Addr) (n c : Nat) (w : World) (hn : n ≤ maxLen) :
    Calls Try.prog 23 #[.slice A n c, .int .i64 1000000] w fun e w' => e = .returned (.int .i64 (if n ≤ 1000000 then 1000000 - (n : Int) else -1)) ∧ w = w' := by
  unfold maxLen at hn
  by_cases h : n ≤ 1000000
  · have h1 : 0 ≤ 1000000 - (n : Int) := by omega
    have hw : IntKind.i64.wrap (1000000 - (n : Int)) = 1000000 - (n : Int) := IntWalk.i64_in _ (by omega)
    go_enter Try.func23, Try.ntmps23
    go_wp2
    go_ret
    exact ⟨rfl, rfl⟩
  · have h1 : 1000000 - (n : Int) < 0 := by omega
    have hw : IntKind.i64.wrap (1000000 - (n : Int)) = 1000000 - (n : Int) := IntWalk.i64_in _ (by omega)
    go_enter Try.func23, Try.ntmps23
    go_wp2
    go_ret
    exact ⟨rfl, rfl⟩
set_option maxHeartbeats 400000 in
theorem eqBook_any (u v : Value) (L M : List (Nat → Nat)) (w : World) (hu : SlAt eFr w w.heap.size u L) (hv : SlAt eFr w w.heap.size v M) :
    Calls Try.prog 19 #[u, v] w fun e w' => e = .returned (.bool (eqB L M)) ∧ Below w.heap.size w w' := by
  obtain ⟨A, c, rfl, h1, h2, hA⟩ := hu
  obtain ⟨B, d, rfl, h3, h4, hB⟩ := hv
  unfold maxLen at h2 h4
  by_cases hl : L.length = M.length
  · have e1 : ((L.length : Int) != (M.length : Int)) = false := by simp [hl]
    have HL := Lib.hid hl
    clear hl
    go_enter Try.func19, Try.ntmps19
    go_wp2
    go_loopw [5] (fun i wr => ∃ k : Nat, k ≤ L.length ∧ i = .int .i64 k ∧ (∀ j, j < k → eqF (fAt L j) (fAt M j) = true) ∧ Below w.heap.size w wr) (fun i _ => L.length - (intOf i).toNat)
    case atStart => exact ⟨0, by omega, rfl, by omega, Below.refl _ _⟩
    case round =>
      obtain ⟨k, hk, rfl, he, hb⟩ := hrel
      have HE := Lib.hid he
      clear he
      by_cases hlt : k < L.length
      · have hltM : k < M.length := by rw [← HL.out]; exact hlt
        obtain ⟨b1, o1, rfl, hb1, r1⟩ := hA (by omega)
        obtain ⟨b2, o2, rfl, hb2, r2⟩ := hB (by omega)
        have g1 := range_below (range_part r1 (fAt_get hlt)) hb hb1
        have g2 := range_below (range_part r2 (fAt_get hltM)) hb hb2
        have l1 : b1 < wr.heap.size := Nat.lt_of_lt_of_le hb1 hb.size
        have l2 : b2 < wr.heap.size := Nat.lt_of_lt_of_le hb2 hb.size
        rw [eFr_n] at g1 g2
        clear hA hB r1 r2
        go_wp2_with fail
        refine wp_region_calm (by kernel_rfl) (by kernel_rfl) ?_
        repeat (first | (refine wpQuiet_load_at rfl 41 39 _ rfl _ _ rfl (by first | exact g1 | exact g2) (by first | exact l1 | exact l2) Try.underlying41 (by kernel_rfl) ?_) | quiet_step (exact Calls.regrown_of (eqFrame_any _ _ _)))
        refine wpQuiet_nil ?_
        intro w3 hb3
        replace hb := grown_below hb hb3 hb.size
        clear g1 g2 hb3
        cases hq : eqF (fAt L k) (fAt M k) with
        | true =>
          have HQ := Lib.hid hq
          go_wp2
          go_roundw
          case rel =>
            go_light
            refine ⟨k + 1, by omega, by go_num, ?_, hb⟩
            intro j hj
            rcases Nat.lt_succ_iff_lt_or_eq.1 hj with h | rfl
            · exact HE.out j h
            · exact HQ.out
          case measure => simp [intOf]; omega
        | false =>
          have HQ := Lib.hid hq
          go_wp2
          go_ret
          exact ⟨ret_bool (eqB_false hlt HQ.out).symm, hb⟩
      · go_wp2
        go_ret
        have hkl : k = L.length := by omega
        subst hkl
        exact ⟨ret_bool ((eqB_iff HL.out).2 HE.out).symm, hb⟩
  · have e1 : ((L.length : Int) != (M.length : Int)) = true := by simp; omega
    have HL := Lib.hid hl
    clear hl
    go_enter Try.func19, Try.ntmps19
    go_wp2
    go_ret
    exact ⟨ret_bool (eqB_len HL.out).symm, Below.refl _ _⟩
/-- What spare room is filled with. -/
def fillF : Nat → Nat := fun i => if i = 0 then 60201 else 0
theorem infoFr : (Try.prog.info? 41).map (fun i => (i.zero, i.size, i.bytes)) = some (some (.agg (FC zeroF)), 12, 24) := by kernel_rfl
theorem build_fill (w : World) : (Instr.build 41 #[(0, .int .u16 60201)]).run Try.prog w = .ok (.agg (FC fillF)) w := by kernel_rfl
set_option maxHeartbeats 1000000 in
theorem toBook_any (v : Value) (L : List (Nat → Nat)) (b : Bool) (w : World) (hL : L.length ≤ 1000000) (h : SlAt eFr w w.heap.size v L) (hb : b = false ∨ 0 < L.length) :
    Calls Try.prog 25 #[v, .bool b] w (MadeAt eFr 41 fillF L w) := by
  obtain ⟨A, c, rfl, h1, h2, hA⟩ := h
  obtain ⟨i0, hi, hz0, hz1, hz2⟩ := info_parts infoFr
  have hr := roomN_le L.length
  generalize hR : roomN L.length = r at *
  generalize hn : L.length = n at *
  have hmk : ∀ w : World, (Instr.makeSlice 31 (.int .i64 ((n : Int) + (r : Int))) (.int .i64 ((n : Int) + (r : Int)))).run Try.prog w = .ok (.slice (some ⟨w.heap.size, 0, none⟩) (n + r) (n + r)) (w.alloc (.cells (madeCells (FC zeroF) ((n + r) * 12)) 41)) := fun w => by
    have := run_make (P := Try.prog) w 31 41 i0 _ Try.underlying31 hi hz0 .i64 .i64 ((n + r : Nat) : Int) ((n + r : Nat) : Int) (by omega) (by omega) (by rw [hz2]; omega) (by omega)
    rw [hz1, Int.toNat_natCast, Int.natCast_add] at this
    exact this
  have hmade := fun w : World => Held.made (E := eFr) w 41 zeroF (FC zeroF) rfl (by decide) (n + r)
  have hsl := run_slice_to (P := Try.prog) Try.underlying31 hi w.heap.size (n + r) (n + r) n .i64 (by omega)
  have hbl := build_fill
  have hE : b = true → ((n : Int) == 0) = false := fun e => by
    rcases hb with h | h
    · rw [h] at e; cases e
    · simp; omega
  have HR := Lib.hid hR
  have HN := Lib.hid hn
  clear hR hn hb hz0 hz1 hz2 hi
  cases b
  case' true => have e0 := hE rfl
  all_goals
    clear hE
    go_enter Try.func25, Try.ntmps25
    go_wp2_with (go_at_call 42; refine (room_any _ _ hL).mono ?_; rintro e w' ⟨rfl, rfl⟩; rw [HR.out])
    have hh := hmade w
    have h0 := (Below.refl w.heap.size w).alloc (Nat.le_refl _) (.cells (madeCells (FC zeroF) ((n + r) * 12)) 41)
    clear hmk hmade
    rw [eFr_n] at hh
    generalize (w.alloc (.cells (madeCells (FC zeroF) ((n + r) * 12)) 41)) = w1 at *
    rw [replicate_tab] at hh
    go_loopw [6] (fun i wr => ∃ k : Nat, k ≤ n ∧ i = .int .i64 k ∧ Held eFr wr w.heap.size 41 (tab (fun i => if i < k then fAt L i else zeroF) (n + r)) ∧ Below w.heap.size w wr) (fun i _ => n - (intOf i).toNat)
    case atStart => exact ⟨0, by omega, rfl, by simpa using hh, h0⟩
    case round =>
      clear hh h0
      obtain ⟨k, hk, rfl, hh, hb⟩ := hrel
      by_cases hlt : k < n
      · obtain ⟨b1, o1, rfl, hb1, r1⟩ := hA (by omega)
        have hkL : k < L.length := by rw [HN.out]; exact hlt
        have g1 := range_below (range_part r1 (fAt_get hkL)) hb hb1
        rw [eFr_n] at g1
        clear hA r1 hkL
        go_wp2_with (first | (refine wpList_load_at rfl 40 39 _ rfl _ _ rfl g1 Try.underlying40 (by kernel_rfl) ?_) | (go_at_call 30; refine (toFrame_any _ _).mono ?_; rintro e w2 ⟨rfl, hb2⟩; replace hh := hh.below hb2 hh.lt; replace hb := grown_below hb hb2 hb.size; clear hb2 g1) | (refine wpList_store_held rfl 41 _ _ rfl hh (i := k) (by rw [tab_length]; omega) rfl rfl (fAt L k) rfl rfl (by kernel_rfl) ?_; intro hh' hw'; replace hb := hw'.below hb (Nat.le_refl _) hb.size; clear hh hw'))
        go_roundw
        case rel =>
          go_light
          refine ⟨k + 1, by omega, by go_num, hh'.store_tab ?_, hb⟩
          intro i hi
          unfold updA
          by_cases e : i = k
          · subst e; simp
          · rw [if_neg e]; simp only [show i < k + 1 ↔ i < k by omega]
        case measure => simp [intOf]; omega
      · have hk' : k = n := by omega
        subst hk'
        clear hA
        go_wp2
        obtain ⟨wo, rfl⟩ : ∃ wo : World, wo = wr := ⟨_, rfl⟩
        go_loopw [7] (fun i wr => ∃ q : Nat, q ≤ r ∧ i = .int .i64 ((k + q : Nat) : Int) ∧ Held eFr wr w.heap.size 41 (tab (fun i => if i < k then fAt L i else if i < k + q then fillF else zeroF) (k + r)) ∧ Below w.heap.size w wr) (fun i _ => k + r - (intOf i).toNat)
        case atStart => exact ⟨0, by omega, rfl, hh.tab_congr (fun i hi => by by_cases e : i < k <;> simp [e]), hb⟩
        case round =>
          clear hh hb
          obtain ⟨q, hq, rfl, hh, hb⟩ := hrel
          by_cases hlq : q < r
          · go_wp2_with (refine wpList_store_held rfl 41 _ _ rfl hh (i := k + q) (by rw [tab_length]; omega) rfl rfl fillF rfl rfl (by kernel_rfl) ?_; intro hh' hw'; replace hb := hw'.below hb (Nat.le_refl _) hb.size; clear hh hw')
            go_roundw
            case rel =>
              go_light
              refine ⟨q + 1, by omega, by go_num, hh'.store_tab ?_, hb⟩
              intro i hi
              unfold updA
              dsimp only
              by_cases e : i = k + q
              · subst e; rw [if_pos rfl, if_neg (by omega), if_pos (by omega)]
              · rw [if_neg e]
                by_cases e2 : i < k
                · rw [if_pos e2, if_pos e2]
                · rw [if_neg e2, if_neg e2]; simp only [show i < k + (q + 1) ↔ i < k + q by omega]
            case measure => simp [intOf]; omega
          · have hqr : q = r := by omega
            subst hqr
            go_wp2
            go_ret
            refine ⟨w.heap.size, by rw [HN.out, HR.out]; rfl, Nat.le_refl _, ?_, hb⟩
            rw [roomy_tab, HN.out, HR.out]
            rw [tab_congr (g := fun i => L.getD i fillF)] at hh
            · exact hh
            · intro i hi
              by_cases e : i < k
              · have hiL : i < L.length := by rw [HN.out]; exact e
                simp [e, fAt, hiL]
              · have hiL : ¬ i < L.length := by rw [HN.out]; exact e
                simp [e, hi, List.getElem?_eq_none (Nat.le_of_not_lt hiL)]
/-- The empty list, bare: nil. -/
theorem toBook_bare (v : Value) (L : List (Nat → Nat)) (w : World) (h : SlAt eFr w w.heap.size v L) (h0 : L.length = 0) :
    Calls Try.prog 25 #[v, .bool true] w fun e w' => e = .returned (.slice none 0 0) ∧ w = w' := by
  obtain ⟨A, c, rfl, h1, h2, hA⟩ := h
  clear hA h1
  rw [h0]
  clear h0
  go_enter Try.func25, Try.ntmps25
  go_wp2
  go_ret
  exact ⟨rfl, rfl⟩
/-- What a call hands back that copies a list: to be read. -/
def GivesSl {α : Type} (E : Enc α) (L : List α) (w : World) (e : Ending) (w' : World) : Prop :=
  ∃ u, e = .returned u ∧ SlAt E w' w'.heap.size u L ∧ Below w.heap.size w w'
theorem SlAt.roomy {α : Type} {E : Enc α} {w : World} {B : Nat} {v : Value} {z : α} {L : List α} (h : SlAt E w B v ((roomy z L).take L.length)) : SlAt E w B v L := by rw [roomy_take] at h; exact h
theorem toBook_sl (v : Value) (L : List (Nat → Nat)) (b : Bool) (w : World) (hL : L.length ≤ 1000000) (h : SlAt eFr w w.heap.size v L) :
    Calls Try.prog 25 #[v, .bool b] w (GivesSl eFr L w) := by
  by_cases hb : b = false ∨ 0 < L.length
  · refine (toBook_any v L b w hL h hb).mono ?_
    rintro e w' ⟨g, rfl, hg, hh, hb'⟩
    exact ⟨_, rfl, (hh.sl (n := L.length) (by rw [roomy_length]; omega) (by omega) (by have := roomN_le L.length; unfold maxLen; omega)).roomy, hb'⟩
  · have h0 : L.length = 0 := by omega
    obtain rfl : b = true := by cases b <;> simp_all
    refine (toBook_bare v L w h h0).mono ?_
    rintro e w' ⟨rfl, rfl⟩
    obtain rfl : L = [] := List.eq_nil_of_length_eq_zero h0
    exact ⟨_, rfl, SlAt.nil_ (Nat.zero_le _) _, Below.refl _ _⟩
set_option maxHeartbeats 400000 in
theorem intactBook_any (g1 g2 : Nat) (L : List (Nat → Nat)) (w : World) (hL : L.length ≤ 1000000) (h1 : Held eFr w g1 41 (roomy fillF L)) (h2 : Held eFr w g2 41 (roomy fillF L)) :
    Calls Try.prog 28 #[.slice (some ⟨g1, 0, none⟩) L.length (L.length + roomN L.length), .slice (some ⟨g2, 0, none⟩) L.length (L.length + roomN L.length)] w fun e w' => e = .returned (.bool true) ∧ Below w.heap.size w w' := by
  obtain ⟨i0, hi, hz0, hz1, hz2⟩ := info_parts infoFr
  have hr := roomN_le L.length
  have hlen := roomy_length fillF L
  have s1 := h1.sl (n := (roomy fillF L).length) (c := (roomy fillF L).length) (Nat.le_refl _) (Nat.le_refl _) (by unfold maxLen; omega)
  have s2 := h2.sl (n := (roomy fillF L).length) (c := (roomy fillF L).length) (Nat.le_refl _) (Nat.le_refl _) (by unfold maxLen; omega)
  rw [List.take_of_length_le (Nat.le_refl _), hlen] at s1 s2
  have cE := fun w' (hb : Below w.heap.size w w') => eqBook_any _ _ _ _ w' (s1.later hb) (s2.later hb)
  rw [eqB_refl] at cE
  generalize hR : roomN L.length = r at *
  generalize L.length = n at *
  have q1 := run_slice_to (P := Try.prog) Try.underlying31 hi g1 n (n + r) (n + r) .i64 (Nat.le_refl _)
  have q2 := run_slice_to (P := Try.prog) Try.underlying31 hi g2 n (n + r) (n + r) .i64 (Nat.le_refl _)
  simp only [Int.natCast_add] at q1 q2
  have CE := Lib.hid cE
  have HR := Lib.hid hR
  clear cE hR hlen s1 s2 h1 h2 hi hz0 hz1 hz2
  go_enter Try.func28, Try.ntmps28
  go_wp2_with (go_at_call 42; refine (room_any _ _ hL).mono ?_; rintro e w' ⟨rfl, rfl⟩; rw [HR.out])
  refine wp_region_calm (by kernel_rfl) (by kernel_rfl) ?_
  repeat (quiet_step (exact Calls.regrown_of (CE.out _ (below_regrown _ _ _))))
  refine wpQuiet_nil ?_
  intro w3 hb3
  go_wp2
  go_ret
  exact ⟨rfl, hb3⟩
set_option maxHeartbeats 400000 in
theorem markBook_any (g n c : Nat) (k : Int) (w : World) (N : Nat) (hk : 0 ≤ k) (hk2 : k ≤ 1000000000) (hn : n ≤ 1000000) (hr : RowN w g 41 N) (hN : n * 12 ≤ N) :
    Calls Try.prog 21 #[.slice (some ⟨g, 0, none⟩) n c, .int .i64 k] w fun e w' => e = .returned (.int .i64 (k + ((n * 12 : Nat) : Int))) ∧ Marks w w' g 41 N (u16At k) (n * 12) := by
  have hm := Marks.start hr (u16At k)
  clear hr
  go_enter Try.func21, Try.ntmps21
  go_wp2
  go_loopw [1, 5] (fun kk i wr => ∃ p : Nat, p ≤ n ∧ i = .int .i64 p ∧ kk = .int .i64 (k + ((p * 12 : Nat) : Int)) ∧ Marks w wr g 41 N (u16At k) (p * 12)) (fun _ i _ => n - (intOf i).toNat)
  case atStart => exact ⟨0, by omega, rfl, by simp, by simpa using hm⟩
  case round =>
    clear hm
    obtain ⟨p, hp, rfl, rfl, hm⟩ := hrel
    by_cases hlt : p < n
    · go_wp2
      obtain ⟨wo, rfl⟩ : ∃ wo : World, wo = wr := ⟨_, rfl⟩
      go_loopw [1, 6] (fun kk i wr => ∃ q : Nat, q ≤ 12 ∧ i = .int .i64 q ∧ kk = .int .i64 (k + ((p * 12 + q : Nat) : Int)) ∧ Marks w wr g 41 N (u16At k) (p * 12 + q)) (fun _ i _ => 12 - (intOf i).toNat)
      case atStart => exact ⟨0, by omega, rfl, by simp, by simpa using hm⟩
      case round =>
        clear hm
        obtain ⟨q, hq, rfl, rfl, hm⟩ := hrel
        by_cases hlq : q < 12
        · obtain ⟨u0, c0⟩ := hm.row.cell (q := p * 12 + q) (by omega)
          have f0 := hm.row.free (p * 12 + q)
          go_wp2
          go_roundw
          case rel =>
            go_light
            exact ⟨q + 1, by omega, by go_num, by go_num, hm.step (by omega) (by rfl)⟩
          case measure => simp [intOf]; omega
        · have hq12 : q = 12 := by omega
          subst hq12
          go_wp2
          go_roundw
          case rel =>
            go_light
            exact ⟨p + 1, by omega, by go_num, by go_num, by rw [show (p + 1) * 12 = p * 12 + 12 by omega]; exact hm⟩
          case measure => simp [intOf]; omega
    · have hpn : p = n := by omega
      subst hpn
      go_wp2
      go_ret
      exact ⟨rfl, hm⟩
set_option maxHeartbeats 400000 in
theorem heldBook_any (g n c : Nat) (k : Int) (w : World) (hk : 0 ≤ k) (hk2 : k ≤ 1000) (hn : n ≤ 1000000) (hm : Marked w g (u16At k) (n * 12)) :
    Calls Try.prog 22 #[.slice (some ⟨g, 0, none⟩) n c, .int .i64 k] w fun e w' => e = .returned (.int .i64 (k + ((n * 12 : Nat) : Int))) ∧ w = w' := by
  go_enter Try.func22, Try.ntmps22
  go_wp2
  go_loop [1, 5] (fun kk i => ∃ p : Nat, p ≤ n ∧ i = .int .i64 p ∧ kk = .int .i64 (k + ((p * 12 : Nat) : Int))) (fun _ i => n - (intOf i).toNat)
  case atStart => exact ⟨0, by omega, rfl, by simp⟩
  case round =>
    obtain ⟨p, hp, rfl, rfl⟩ := hrel
    by_cases hlt : p < n
    · go_wp2
      go_loop [1, 6] (fun kk i => ∃ q : Nat, q ≤ 12 ∧ i = .int .i64 q ∧ kk = .int .i64 (k + ((p * 12 + q : Nat) : Int))) (fun _ i => 12 - (intOf i).toNat)
      case atStart => exact ⟨0, by omega, rfl, by simp⟩
      case round =>
        obtain ⟨q, hq, rfl, rfl⟩ := hrel
        by_cases hlq : q < 12
        · have c0 := hm (p * 12 + q) (by omega)
          unfold u16At at c0
          have e0 : (IntKind.u16.wrap (k + ((p * 12 + q : Nat) : Int)) != IntKind.u16.wrap (k + ((p * 12 + q : Nat) : Int))) = false := by simp
          go_wp2
          go_round
          case rel =>
            go_light
            exact ⟨q + 1, by omega, by go_num, by go_num⟩
          case measure => simp [intOf]; omega
        · have hq12 : q = 12 := by omega
          subst hq12
          go_wp2
          go_round
          case rel =>
            go_light
            exact ⟨p + 1, by omega, by go_num, by go_num⟩
          case measure => simp [intOf]; omega
    · have hpn : p = n := by omega
      subst hpn
      go_wp2
      go_ret
      exact ⟨rfl, rfl⟩
theorem eqBook_same (u v : Value) (L : List (Nat → Nat)) (w : World) (hu : SlAt eFr w w.heap.size u L) (hv : SlAt eFr w w.heap.size v L) :
    Calls Try.prog 19 #[u, v] w fun e w' => e = .returned (.bool true) ∧ Below w.heap.size w w' := by
  have := eqBook_any u v L L w hu hv
  rw [eqB_refl] at this
  exact this
theorem markBook_nil (A : Option Addr) (c : Nat) (k : Int) (w : World) :
    Calls Try.prog 21 #[.slice A 0 c, .int .i64 k] w fun e w' => e = .returned (.int .i64 k) ∧ w = w' := by
  go_enter Try.func21, Try.ntmps21
  go_wp2
  go_loop [1, 5] (fun kk i => kk = .int .i64 k ∧ i = .int .i64 0) (fun _ _ => 0)
  case atStart => exact ⟨rfl, rfl⟩
  case round =>
    obtain ⟨rfl, rfl⟩ := hrel
    go_wp2
    go_ret
    exact ⟨rfl, rfl⟩
theorem heldBook_nil (A : Option Addr) (c : Nat) (k : Int) (w : World) :
    Calls Try.prog 22 #[.slice A 0 c, .int .i64 k] w fun e w' => e = .returned (.int .i64 k) ∧ w = w' := by
  go_enter Try.func22, Try.ntmps22
  go_wp2
  go_loop [1, 5] (fun kk i => kk = .int .i64 k ∧ i = .int .i64 0) (fun _ _ => 0)
  case atStart => exact ⟨rfl, rfl⟩
  case round =>
    obtain ⟨rfl, rfl⟩ := hrel
    go_wp2
    go_ret
    exact ⟨rfl, rfl⟩
theorem markBook_own (v : Value) (M : List (Nat → Nat)) (base : Nat) (k : Int) (w : World) (hk : 0 ≤ k) (hk2 : k ≤ 1000) (hn : M.length ≤ 1000000) (h : OwnL eFr w base 41 v M) :
    Calls Try.prog 21 #[v, .int .i64 k] w fun e w' => e = .returned (.int .i64 (k + ((M.length * 12 : Nat) : Int))) ∧ w.grownBy w' v.ownBlock ∧ MarkedV w' v (u16At k) M.length (M.length * 12) := by
  rcases h.form with ⟨rfl, rfl⟩ | ⟨g, cap, R, rfl, hb, hg, h1, h2, hr⟩
  · refine (markBook_nil none 0 k w).mono ?_
    rintro e w' ⟨rfl, rfl⟩
    exact ⟨by simp, World.grownBy.refl w _, none, 0, rfl, .inl rfl⟩
  · refine (markBook_any g M.length cap k w _ hk (by omega) hn ⟨_, rfl, hr⟩ (by simp [Enc.cells_length, eFr_n])).mono ?_
    rintro e w' ⟨rfl, hm⟩
    exact ⟨rfl, hm.grown, some ⟨g, 0, none⟩, cap, rfl, .inr ⟨g, rfl, hm.row.lt, hm.cells⟩⟩
theorem heldBook_own (v : Value) (n : Nat) (k : Int) (w : World) (hk : 0 ≤ k) (hk2 : k ≤ 1000) (hn : n ≤ 1000000) (h : MarkedV w v (u16At k) n (n * 12)) :
    Calls Try.prog 22 #[v, .int .i64 k] w fun e w' => e = .returned (.int .i64 (k + ((n * 12 : Nat) : Int))) ∧ w = w' := by
  obtain ⟨A, c, rfl, rfl | ⟨g, rfl, _, hm⟩⟩ := h
  · refine (heldBook_nil A c k w).mono ?_
    rintro e w' ⟨rfl, rfl⟩
    exact ⟨by simp, rfl⟩
  · exact heldBook_any g n c k w hk hk2 hn hm
theorem szBook_from (A : Option Addr) (n c : Nat) (left : Int) (w : World) (hn : n ≤ maxLen) (h0 : 0 ≤ left) (h1 : left ≤ 1000000) :
    Calls Try.prog 23 #[.slice A n c, .int .i64 left] w fun e w' => e = .returned (.int .i64 (if (n : Int) ≤ left then left - (n : Int) else -1)) ∧ w = w' := by
  unfold maxLen at hn
  by_cases h : (n : Int) ≤ left
  · have h2 : 0 ≤ left - (n : Int) := by omega
    have hw : IntKind.i64.wrap (left - (n : Int)) = left - (n : Int) := IntWalk.i64_in _ (by omega)
    have hv : (if (n : Int) ≤ left then left - (n : Int) else -1) = left - (n : Int) := if_pos h
    rw [hv]
    clear hv h
    go_enter Try.func23, Try.ntmps23
    go_wp2
    go_ret
    exact ⟨rfl, rfl⟩
  · have h2 : left - (n : Int) < 0 := by omega
    have hw : IntKind.i64.wrap (left - (n : Int)) = left - (n : Int) := IntWalk.i64_in _ (by omega)
    have hv : (if (n : Int) ≤ left then left - (n : Int) else -1) = -1 := if_neg h
    rw [hv]
    clear hv h
    go_enter Try.func23, Try.ntmps23
    go_wp2
    go_ret
    exact ⟨rfl, rfl⟩
end Go.Proofs.Ytjbjbdkmomkclaa
