import Derived.Test.YtpmlepgnokbpaaaM4
import Derived.Test.YtpmlepgnokbpaaaRows
import Derived.Test.YtpmlepgnokbpaaaM1
import Derived.Test.YtpmlepgnokbpaaaM3
import Derived.Test.YtpmlepgnokbpaaaM2
/- The laws' own helpers over tracks: szTrack, toTrack, eqTrack, intactTrack. -/
namespace Go.Proofs.Ytpmlepgnokbpaaa
set_option maxRecDepth 100000
open Go.RowKit
set_option linter.unusedVariables false
theorem infoKy : (Try.prog.info? 141).map (fun i => (i.zero, i.size, i.bytes)) = some (some (.agg (KC zeroK)), 3, 4) := by kernel_rfl
theorem szTrack_from (A : Option Addr) (n c : Nat) (left : Int) (w : World) (hn : n ≤ maxLen) (h0 : 0 ≤ left) (h1 : left ≤ 1000000) :
    Calls Try.prog 85 #[.slice A n c, .int .i64 left] w fun e w' => e = .returned (.int .i64 (if (n : Int) ≤ left then left - (n : Int) else -1)) ∧ w = w' := by
  unfold maxLen at hn
  by_cases h : (n : Int) ≤ left
  · have h2 : 0 ≤ left - (n : Int) := by omega
    have hw : IntKind.i64.wrap (left - (n : Int)) = left - (n : Int) := IntWalk.i64_in _ (by omega)
    have hv : (if (n : Int) ≤ left then left - (n : Int) else -1) = left - (n : Int) := if_pos h
    rw [hv]
    clear hv h
    go_enter Try.func85, Try.ntmps85
    go_wp2
    go_ret
    exact ⟨rfl, rfl⟩
  · have h2 : left - (n : Int) < 0 := by omega
    have hw : IntKind.i64.wrap (left - (n : Int)) = left - (n : Int) := IntWalk.i64_in _ (by omega)
    have hv : (if (n : Int) ≤ left then left - (n : Int) else -1) = -1 := if_neg h
    rw [hv]
    clear hv h
    go_enter Try.func85, Try.ntmps85
    go_wp2
    go_ret
    exact ⟨rfl, rfl⟩
set_option maxHeartbeats 400000 in
theorem eqTrack_any (u v : Value) (L M : List (Int × Int × Int)) (w : World) (hu : SlAt eKy w w.heap.size u L) (hv : SlAt eKy w w.heap.size v M) :
    Calls Try.prog 112 #[u, v] w fun e w' => e = .returned (.bool (decide (L = M))) ∧ Below w.heap.size w w' := by
  obtain ⟨A, c, rfl, h1, h2, hA⟩ := hu
  obtain ⟨B, d, rfl, h3, h4, hB⟩ := hv
  unfold maxLen at h2 h4
  by_cases hl : L.length = M.length
  · have e1 : ((L.length : Int) != (M.length : Int)) = false := by simp [hl]
    have HL := Lib.hid hl
    clear hl
    go_enter Try.func112, Try.ntmps112
    go_wp2
    go_loopw [5] (fun i wr => ∃ k : Nat, k ≤ L.length ∧ i = .int .i64 k ∧ (∀ j, j < k → kAt L j = kAt M j) ∧ Below w.heap.size w wr) (fun i _ => L.length - (intOf i).toNat)
    case atStart => exact ⟨0, by omega, rfl, by omega, Below.refl _ _⟩
    case round =>
      obtain ⟨k, hk, rfl, he, hb⟩ := hrel
      have HE := Lib.hid he
      clear he
      by_cases hlt : k < L.length
      · have hltM : k < M.length := by rw [← HL.out]; exact hlt
        obtain ⟨b1, o1, rfl, hb1, r1⟩ := hA (by omega)
        obtain ⟨b2, o2, rfl, hb2, r2⟩ := hB (by omega)
        have g1 := range_below (range_part r1 (kAt_get hlt)) hb hb1
        have g2 := range_below (range_part r2 (kAt_get hltM)) hb hb2
        have l1 : b1 < wr.heap.size := Nat.lt_of_lt_of_le hb1 hb.size
        have l2 : b2 < wr.heap.size := Nat.lt_of_lt_of_le hb2 hb.size
        rw [eKy_n] at g1 g2
        clear hA hB r1 r2
        go_wp2_with fail
        refine wp_region_calm (by kernel_rfl) (by kernel_rfl) ?_
        repeat (first | (first | refine wpQuiet_load_el (E := eKy) rfl 141 _ rfl _ _ rfl (kAt L k) (KC (kAt L k)) rfl g1 l1 Try.underlying141 rfl (by kernel_rfl) ?_ | refine wpQuiet_load_el (E := eKy) rfl 141 _ rfl _ _ rfl (kAt M k) (KC (kAt M k)) rfl g2 l2 Try.underlying141 rfl (by kernel_rfl) ?_) | quiet_step (exact Calls.regrown_of (eqKey_any _ _ _)))
        refine wpQuiet_nil ?_
        intro w3 hb3
        replace hb := grown_below hb hb3 hb.size
        clear g1 g2 hb3
        cases hq : decide (kAt L k = kAt M k) with
        | true =>
          have HQ := Lib.hid (of_decide_eq_true hq)
          clear hq
          go_wp2
          go_roundw
          case rel =>
            go_light
            refine ⟨k + 1, by omega, by go_num, ?_, hb⟩
            intro j hj
            rcases Nat.lt_succ_iff_lt_or_eq.1 hj with h | rfl
            · exact HE.out j h
            · exact HQ.out
          case measure => simp [intOf]; omega
        | false =>
          have HQ := Lib.hid (show L ≠ M from fun e => of_decide_eq_false hq (by rw [e]))
          clear hq
          go_wp2
          go_ret
          exact ⟨ret_bool (by rw [decide_eq_false HQ.out]), hb⟩
      · go_wp2
        go_ret
        have hkl : k = L.length := by omega
        subst hkl
        exact ⟨ret_bool (by rw [decide_eq_true (eq_of_getD (z := zeroK) HL.out HE.out)]), hb⟩
  · have e1 : ((L.length : Int) != (M.length : Int)) = true := by simp; omega
    have HL := Lib.hid hl
    clear hl
    go_enter Try.func112, Try.ntmps112
    go_wp2
    go_ret
    exact ⟨ret_bool (by rw [decide_eq_false (fun e => HL.out (by rw [e]))]), Below.refl _ _⟩
theorem eqTrack_same (u v : Value) (L : List (Int × Int × Int)) (w : World) (hu : SlAt eKy w w.heap.size u L) (hv : SlAt eKy w w.heap.size v L) :
    Calls Try.prog 112 #[u, v] w fun e w' => e = .returned (.bool true) ∧ Below w.heap.size w w' := by
  have := eqTrack_any u v L L w hu hv
  rw [decide_eq_true rfl] at this
  exact this
set_option maxHeartbeats 1000000 in
theorem toTrack_any (v : Value) (L : List (Int × Int × Int)) (b : Bool) (w : World) (hL : L.length ≤ 1000000) (h : SlAt eKy w w.heap.size v L) (hb : b = false ∨ 0 < L.length) :
    Calls Try.prog 87 #[v, .bool b] w (MadeAt eKy 141 fillK L w) := by
  obtain ⟨A, c, rfl, h1, h2, hA⟩ := h
  obtain ⟨i0, hi, hz0, hz1, hz2⟩ := info_parts infoKy
  have hr := roomN_le L.length
  generalize hR : roomN L.length = r at *
  generalize hn : L.length = n at *
  have hmk : ∀ w : World, (Instr.makeSlice 74 (.int .i64 ((n : Int) + (r : Int))) (.int .i64 ((n : Int) + (r : Int)))).run Try.prog w = .ok (.slice (some ⟨w.heap.size, 0, none⟩) (n + r) (n + r)) (w.alloc (.cells (madeCells (KC zeroK) ((n + r) * 3)) 141)) := fun w => by
    have := run_make (P := Try.prog) w 74 141 i0 _ Try.underlying74 hi hz0 .i64 .i64 ((n + r : Nat) : Int) ((n + r : Nat) : Int) (by omega) (by omega) (by rw [hz2]; omega) (by omega)
    rw [hz1, Int.toNat_natCast, Int.natCast_add] at this
    exact this
  have hmade := fun w : World => Held.made (E := eKy) w 141 zeroK (KC zeroK) rfl (by decide) (n + r)
  have hsl := run_slice_to (P := Try.prog) Try.underlying74 hi w.heap.size (n + r) (n + r) n .i64 (by omega)
  have hE : b = true → ((n : Int) == 0) = false := fun e => by
    rcases hb with h | h
    · rw [h] at e; cases e
    · simp; omega
  have HR := Lib.hid hR
  have HN := Lib.hid hn
  clear hR hn hb hz0 hz1 hz2 hi
  cases b
  case' true => have e0 := hE rfl
  all_goals
    clear hE
    go_enter Try.func87, Try.ntmps87
    go_wp2_with (go_at_call 57; refine (room_any _ _ hL).mono ?_; rintro e w' ⟨rfl, rfl⟩; rw [HR.out])
    have hh := hmade w
    have h0 := (Below.refl w.heap.size w).alloc (Nat.le_refl _) (.cells (madeCells (KC zeroK) ((n + r) * 3)) 141)
    clear hmk hmade
    rw [eKy_n] at hh
    generalize (w.alloc (.cells (madeCells (KC zeroK) ((n + r) * 3)) 141)) = w1 at *
    rw [replicate_tab] at hh
    go_loopw [6] (fun i wr => ∃ k : Nat, k ≤ n ∧ i = .int .i64 k ∧ Held eKy wr w.heap.size 141 (tab (fun i => if i < k then kAt L i else zeroK) (n + r)) ∧ Below w.heap.size w wr) (fun i _ => n - (intOf i).toNat)
    case atStart => exact ⟨0, by omega, rfl, by simpa using hh, h0⟩
    case round =>
      clear hh h0
      obtain ⟨k, hk, rfl, hh, hb⟩ := hrel
      by_cases hlt : k < n
      · obtain ⟨b1, o1, rfl, hb1, r1⟩ := hA (by omega)
        have hkL : k < L.length := by rw [HN.out]; exact hlt
        have g1 := range_below (range_part r1 (kAt_get hkL)) hb hb1
        rw [eKy_n] at g1
        clear hA r1 hkL
        go_wp2_with (first | (refine wpList_load_el (E := eKy) rfl 143 _ rfl _ _ rfl (kAt L k) (KC (kAt L k)) rfl g1 Try.underlying143 rfl (by kernel_rfl) ?_) | (go_at_call 109; refine (toKey_any _ _).mono ?_; rintro e w2 ⟨rfl, hb2⟩; replace hh := hh.below hb2 hh.lt; replace hb := grown_below hb hb2 hb.size; clear hb2 g1) | (refine wpList_store_held rfl 141 _ _ rfl hh (i := k) (by rw [tab_length]; omega) rfl rfl (kAt L k) rfl rfl (by kernel_rfl) ?_; intro hh' hw'; replace hb := hw'.below hb (Nat.le_refl _) hb.size; clear hh hw'))
        go_roundw
        case rel =>
          go_light
          refine ⟨k + 1, by omega, by go_num, hh'.store_tab ?_, hb⟩
          intro i hi
          unfold updA
          by_cases e : i = k
          · subst e; simp
          · rw [if_neg e]; simp only [show i < k + 1 ↔ i < k by omega]
        case measure => simp [intOf]; omega
      · have hk' : k = n := by omega
        subst hk'
        clear hA
        go_wp2
        obtain ⟨wo, rfl⟩ : ∃ wo : World, wo = wr := ⟨_, rfl⟩
        go_loopw [7] (fun i wr => ∃ q : Nat, q ≤ r ∧ i = .int .i64 ((k + q : Nat) : Int) ∧ Held eKy wr w.heap.size 141 (tab (fun i => if i < k then kAt L i else if i < k + q then fillK else zeroK) (k + r)) ∧ Below w.heap.size w wr) (fun i _ => k + r - (intOf i).toNat)
        case atStart => exact ⟨0, by omega, rfl, hh.tab_congr (fun i hi => by by_cases e : i < k <;> simp [e]), hb⟩
        case round =>
          clear hh hb
          obtain ⟨q, hq, rfl, hh, hb⟩ := hrel
          by_cases hlq : q < r
          · go_wp2_with (first | (go_at_call 110; refine (fillerK_any _).mono ?_; rintro e w2 ⟨rfl, hb2⟩; replace hh := hh.below hb2 hh.lt; replace hb := grown_below hb hb2 hb.size; clear hb2) | (refine wpList_store_held rfl 141 _ _ rfl hh (i := k + q) (by rw [tab_length]; omega) rfl rfl fillK rfl rfl (by kernel_rfl) ?_; intro hh' hw'; replace hb := hw'.below hb (Nat.le_refl _) hb.size; clear hh hw'))
            go_roundw
            case rel =>
              go_light
              refine ⟨q + 1, by omega, by go_num, hh'.store_tab ?_, hb⟩
              intro i hi
              unfold updA
              dsimp only
              by_cases e : i = k + q
              · subst e; rw [if_pos rfl, if_neg (by omega), if_pos (by omega)]
              · rw [if_neg e]
                by_cases e2 : i < k
                · rw [if_pos e2, if_pos e2]
                · rw [if_neg e2, if_neg e2]; simp only [show i < k + (q + 1) ↔ i < k + q by omega]
            case measure => simp [intOf]; omega
          · have hqr : q = r := by omega
            subst hqr
            go_wp2
            go_ret
            refine ⟨w.heap.size, by rw [HN.out, HR.out]; rfl, Nat.le_refl _, ?_, hb⟩
            rw [roomy_tab, HN.out, HR.out]
            rw [tab_congr (g := fun i => L.getD i fillK)] at hh
            · exact hh
            · intro i hi
              by_cases e : i < k
              · have hiL : i < L.length := by rw [HN.out]; exact e
                simp [e, kAt, hiL]
              · have hiL : ¬ i < L.length := by rw [HN.out]; exact e
                simp [e, hi, List.getElem?_eq_none (Nat.le_of_not_lt hiL)]
/-- The empty list, bare: nil. -/
theorem toTrack_bare (v : Value) (L : List (Int × Int × Int)) (w : World) (h : SlAt eKy w w.heap.size v L) (h0 : L.length = 0) :
    Calls Try.prog 87 #[v, .bool true] w fun e w' => e = .returned (.slice none 0 0) ∧ w = w' := by
  obtain ⟨A, c, rfl, h1, h2, hA⟩ := h
  clear hA h1
  rw [h0]
  clear h0
  go_enter Try.func87, Try.ntmps87
  go_wp2
  go_ret
  exact ⟨rfl, rfl⟩
theorem toTrack_sl (v : Value) (L : List (Int × Int × Int)) (b : Bool) (w : World) (hL : L.length ≤ 1000000) (h : SlAt eKy w w.heap.size v L) :
    Calls Try.prog 87 #[v, .bool b] w (GivesSl eKy L w) := by
  by_cases hb : b = false ∨ 0 < L.length
  · refine (toTrack_any v L b w hL h hb).mono ?_
    rintro e w' ⟨g, rfl, hg, hh, hb'⟩
    exact ⟨_, rfl, (hh.sl (n := L.length) (by rw [roomy_length]; omega) (by omega) (by have := roomN_le L.length; unfold maxLen; omega)).roomy, hb'⟩
  · have h0 : L.length = 0 := by omega
    obtain rfl : b = true := by cases b <;> simp_all
    refine (toTrack_bare v L w h h0).mono ?_
    rintro e w' ⟨rfl, rfl⟩
    obtain rfl : L = [] := List.eq_nil_of_length_eq_zero h0
    exact ⟨_, rfl, SlAt.nil_ (Nat.zero_le _) _, Below.refl _ _⟩
set_option maxHeartbeats 400000 in
theorem intactTrack_any (g1 g2 : Nat) (L : List (Int × Int × Int)) (w : World) (hL : L.length ≤ 1000000) (h1 : Held eKy w g1 141 (roomy fillK L)) (h2 : Held eKy w g2 141 (roomy fillK L)) :
    Calls Try.prog 90 #[.slice (some ⟨g1, 0, none⟩) L.length (L.length + roomN L.length), .slice (some ⟨g2, 0, none⟩) L.length (L.length + roomN L.length)] w fun e w' => e = .returned (.bool true) ∧ Below w.heap.size w w' := by
  obtain ⟨i0, hi, hz0, hz1, hz2⟩ := info_parts infoKy
  have hr := roomN_le L.length
  have hlen := roomy_length fillK L
  have s1 := h1.sl (n := (roomy fillK L).length) (c := (roomy fillK L).length) (Nat.le_refl _) (Nat.le_refl _) (by unfold maxLen; omega)
  have s2 := h2.sl (n := (roomy fillK L).length) (c := (roomy fillK L).length) (Nat.le_refl _) (Nat.le_refl _) (by unfold maxLen; omega)
  rw [List.take_of_length_le (Nat.le_refl _), hlen] at s1 s2
  have cE := fun w' (hb : Below w.heap.size w w') => eqTrack_same _ _ _ w' (s1.later hb) (s2.later hb)
  generalize hR : roomN L.length = r at *
  generalize L.length = n at *
  have q1 := run_slice_to (P := Try.prog) Try.underlying74 hi g1 n (n + r) (n + r) .i64 (Nat.le_refl _)
  have q2 := run_slice_to (P := Try.prog) Try.underlying74 hi g2 n (n + r) (n + r) .i64 (Nat.le_refl _)
  simp only [Int.natCast_add] at q1 q2
  have CE := Lib.hid cE
  have HR := Lib.hid hR
  clear cE hR hlen s1 s2 h1 h2 hi hz0 hz1 hz2
  go_enter Try.func90, Try.ntmps90
  go_wp2_with (go_at_call 57; refine (room_any _ _ hL).mono ?_; rintro e w' ⟨rfl, rfl⟩; rw [HR.out])
  refine wp_region_calm (by kernel_rfl) (by kernel_rfl) ?_
  repeat (quiet_step (exact Calls.regrown_of (CE.out _ (below_regrown _ _ _))))
  refine wpQuiet_nil ?_
  intro w3 hb3
  go_wp2
  go_ret
  exact ⟨rfl, hb3⟩
end Go.Proofs.Ytpmlepgnokbpaaa

/- CELS: how a cel lies in memory: the rows of two frames, one behind the other; loads and stores of halves. Plain lemmas: no function of the program is named. -/
namespace Go.Proofs.Ytpmlepgnokbpaaa
open Go.RowKit
set_option linter.unusedVariables false
set_option linter.unusedSimpArgs false
def CC (i k : Nat → Nat) : Array Value := #[.int .u16 (i 0), .int .u16 (i 1), .int .u16 (i 2), .int .u16 (i 3), .int .u16 (i 4), .int .u16 (i 5), .int .u16 (i 6), .int .u16 (i 7), .int .u16 (i 8), .int .u16 (i 9), .int .u16 (i 10), .int .u16 (i 11), .int .u16 (k 0), .int .u16 (k 1), .int .u16 (k 2), .int .u16 (k 3), .int .u16 (k 4), .int .u16 (k 5), .int .u16 (k 6), .int .u16 (k 7), .int .u16 (k 8), .int .u16 (k 9), .int .u16 (k 10), .int .u16 (k 11)]
theorem CC_list (i k : Nat → Nat) : (CC i k).toList = (FC i).toList ++ (FC k).toList := rfl
theorem CC_one (i k : Nat → Nat) : ∀ v ∈ (CC i k).toList, v.oneCell' = true := by
  intro v hv
  rw [CC_list, List.mem_append] at hv
  rcases hv with h | h
  · exact FC_one i v h
  · exact FC_one k v h
theorem CC_zero : CC zeroF zeroF = #[.int .u16 0, .int .u16 0, .int .u16 0, .int .u16 0, .int .u16 0, .int .u16 0, .int .u16 0, .int .u16 0, .int .u16 0, .int .u16 0, .int .u16 0, .int .u16 0, .int .u16 0, .int .u16 0, .int .u16 0, .int .u16 0, .int .u16 0, .int .u16 0, .int .u16 0, .int .u16 0, .int .u16 0, .int .u16 0, .int .u16 0, .int .u16 0] := rfl
theorem CC_ext {i i' k k' : Nat → Nat} (hi : ∀ y, y < 12 → i y = i' y) (hk : ∀ y, y < 12 → k y = k' y) : CC i k = CC i' k' := by
  apply Array.toList_inj.1
  rw [CC_list, CC_list, FC_ext hi, FC_ext hk]
/-- Block g is a cel. -/
def CelAt (w : World) (g : Nat) (t : TypeId) (i k : Nat → Nat) : Prop := Row w g t (CC i k)
/-- A cel lies in block b from offset o on. -/
structure CelIn (w : World) (b o : Nat) (i k : Nat → Nat) : Prop where
  ink : w.rangeAt b o (FC i).toList
  cov : w.rangeAt b (o + 12) (FC k).toList
theorem celIn_range {w : World} {b o : Nat} {i k : Nat → Nat} (h : w.rangeAt b o (CC i k).toList) : CelIn w b o i k := by
  rw [CC_list] at h
  refine ⟨fun j v hv => h j v ?_, fun j v hv => ?_⟩
  · rw [List.getElem?_append_left ((List.getElem?_eq_some_iff.1 hv).1)]; exact hv
  · have := h (12 + j) v (by rw [List.getElem?_append_right (by show 12 ≤ 12 + j; omega)]; show (FC k).toList[12 + j - 12]? = _; rw [Nat.add_sub_cancel_left]; exact hv)
    rwa [← Nat.add_assoc] at this
theorem CelIn.range {w : World} {b o : Nat} {i k : Nat → Nat} (h : CelIn w b o i k) : w.rangeAt b o (CC i k).toList := by
  intro j v hv
  rw [CC_list] at hv
  rcases Nat.lt_or_ge j 12 with hj | hj
  · rw [List.getElem?_append_left (by show j < 12; exact hj)] at hv
    exact h.ink j v hv
  · rw [List.getElem?_append_right (by show 12 ≤ j; exact hj)] at hv
    have := h.cov (j - 12) v hv
    rwa [show o + 12 + (j - 12) = o + j by omega] at this
theorem CelIn.below {B : Nat} {w w' : World} {b o : Nat} {i k : Nat → Nat} (h : CelIn w b o i k) (hb : Below B w w') (hlt : b < B) : CelIn w' b o i k := ⟨range_below h.ink hb hlt, range_below h.cov hb hlt⟩
section
variable {w w' : World} {g : Nat} {t : TypeId} {i k : Nat → Nat}
theorem CelAt.new (w : World) (t : TypeId) (i k : Nat → Nat) : CelAt (w.alloc (.cells (CC i k) t)) w.heap.size t i k := Row.new w t _
theorem CelAt.lt (h : CelAt w g t i k) : g < w.heap.size := Row.lt h
theorem CelAt.alloc (h : CelAt w g t i k) (o : Obj) : CelAt (w.alloc o) g t i k := Row.alloc h o
theorem CelAt.below {B : Nat} (h : CelAt w g t i k) (hb : Below B w w') (hg : g < B) : CelAt w' g t i k := Row.below h hb hg
theorem CelAt.wrote {B : Nat} (h : CelAt w g t i k) (hb : Wrote B w w') (hg : g ≠ B) : CelAt w' g t i k := hb.row h hg
theorem CelAt.cells (h : CelAt w g t i k) : CelIn w g 0 i k := celIn_range (fun j v hv => by rw [Nat.zero_add, Row.cell h]; simpa using hv)
theorem CelAt.ink (h : CelAt w g t i k) : w.rangeAt g 0 (FC i).toList := h.cells.ink
theorem CelAt.cov (h : CelAt w g t i k) : w.rangeAt g 12 (FC k).toList := h.cells.cov
theorem CelAt.held (h : CelAt w g t i k) : Held eFr w g t [i, k] := h
theorem CelAt.of_held (h : Held eFr w g t [i, k]) : CelAt w g t i k := h
theorem CelAt.setRow (h : CelAt w g t i k) (i' k' : Nat → Nat) : CelAt (w.setRow g (CC i' k')) g t i' k' := Row.setRow h _
theorem CelAt.setRowOther {g' : Nat} (h : CelAt w g t i k) (cs : Array Value) (hn : g ≠ g') : CelAt (w.setRow g' cs) g t i k := Row.setRowOther h cs hn
theorem CelAt.drewN (h : CelAt w g t i k) (n : Nat) : CelAt (w.drewN n) g t i k := h
end
section
variable {P : Program} {ops : Array Oper} {rest : List Oper} {o : Oper} {a : Act} {w : World} {Q : Exit → Act → World → Prop} {g : Nat} {t : TypeId} {i k : Nat → Nat}
/-- A cel is loaded whole. -/
theorem wpList_load_cel (hgd : o.guard = none) (ty : TypeId) (x : Operand) (ho : o.op = .load ty x) (hx : a.eval x = .pointer (some ⟨g, 0, none⟩)) (hb : CelAt w g t i k) {d : TypeDesc} (hu : P.underlying ty = some d) (hd : d.isRow = true) (hi : (P.info? ty).map (·.size) = some 24)
    (h : wpList P ops Q rest (a.put o.dst (.agg (CC i k))) w) : wpList P ops Q (o :: rest) a w :=
  wpList_load_row hgd ty x ho g hx t (CC i k) (0, 0) d hb hu (by cases d <;> simp_all [TypeDesc.isRow]) hi h
/-- .. out of the middle of a block. -/
theorem wpList_load_celIn (hgd : o.guard = none) (ty : TypeId) (x : Operand) (ho : o.op = .load ty x) (b off : Nat) (hx : a.eval x = .pointer (some ⟨b, off, none⟩)) (hb : CelIn w b off i k) {d : TypeDesc} (hu : P.underlying ty = some d) (hd : d.isRow = true) (hi : (P.info? ty).map (·.size) = some 24)
    (h : wpList P ops Q rest (a.put o.dst (.agg (CC i k))) w) : wpList P ops Q (o :: rest) a w :=
  wpList_load_mid hgd ty x ho b off hx (CC i k).toList d hb.range hu hd hi h
/-- A cel is stored whole. -/
theorem wpList_store_cel (hgd : o.guard = none) (ty : TypeId) (x y : Operand) (ho : o.op = .store ty x y) {i0 k0 : Nat → Nat} (hb : CelAt w g t i0 k0) (hx : a.eval x = .pointer (some ⟨g, 0, none⟩)) (hy : a.eval y = .agg (CC i k)) (hi : (P.info? ty).map (·.size) = some 24)
    (h : CelAt (w.setRow g (CC i k)) g t i k → wpList P ops Q rest (a.put o.dst undef) (w.setRow g (CC i k))) : wpList P ops Q (o :: rest) a w :=
  wpList_store_row hgd ty x y ho g hx hb hy rfl (CC_one i k) hi (h (hb.setRow i k))
/-- A cel's ink is stored. -/
theorem wpList_store_ink (hgd : o.guard = none) (ty : TypeId) (x y : Operand) (ho : o.op = .store ty x y) (hb : CelAt w g t i k) (hx : a.eval x = .pointer (some ⟨g, 0, none⟩)) {f : Nat → Nat} (hy : a.eval y = .agg (FC f)) (hi : (P.info? ty).map (·.size) = some 12)
    (h : CelAt (w.setCells g 0 (FC f).toList) g t f k → Wrote g w (w.setCells g 0 (FC f).toList) → wpList P ops Q rest (a.put o.dst undef) (w.setCells g 0 (FC f).toList)) : wpList P ops Q (o :: rest) a w :=
  wpList_store_held (E := eFr) hgd ty x y ho hb.held (i := 0) (off := 0) (by simp) rfl hx f hy rfl hi (fun h1 h2 => h h1 h2)
/-- A cel's cover is stored. -/
theorem wpList_store_cov (hgd : o.guard = none) (ty : TypeId) (x y : Operand) (ho : o.op = .store ty x y) (hb : CelAt w g t i k) (hx : a.eval x = .pointer (some ⟨g, 12, none⟩)) {f : Nat → Nat} (hy : a.eval y = .agg (FC f)) (hi : (P.info? ty).map (·.size) = some 12)
    (h : CelAt (w.setCells g 12 (FC f).toList) g t i f → Wrote g w (w.setCells g 12 (FC f).toList) → wpList P ops Q rest (a.put o.dst undef) (w.setCells g 12 (FC f).toList)) : wpList P ops Q (o :: rest) a w :=
  wpList_store_held (E := eFr) hgd ty x y ho hb.held (i := 1) (off := 12) (by simp) rfl hx f hy rfl hi (fun h1 h2 => h h1 h2)
open Go.Sort in
theorem wpQuiet_load_celIn {Q : Act → Prop} (hgd : o.guard = none) (ty : TypeId) (x : Operand) (ho : o.op = .load ty x) (b off : Nat) (hx : a.eval x = .pointer (some ⟨b, off, none⟩)) (hb : CelIn w b off i k) (hlt : b < w.heap.size) {d : TypeDesc} (hu : P.underlying ty = some d) (hd : d.isRow = true) (hi : (P.info? ty).map (·.size) = some 24)
    (h : wpQuiet P ops (fun w' => ∃ p : Regrown, w' = grow (redrawn w p.d) p.os) Q rest (a.put o.dst (.agg (CC i k)))) : wpQuiet P ops (fun w' => ∃ p : Regrown, w' = grow (redrawn w p.d) p.os) Q (o :: rest) a := by
  unfold wpQuiet
  rw [if_pos (by simp [Region.wanted, hgd])]
  refine ⟨_, ?_, h⟩
  rintro w' ⟨p, rfl⟩
  have hb' : (grow (redrawn w p.d) p.os).rangeAt b off (CC i k).toList := range_below hb.range (below_regrown w p.d p.os) hlt
  unfold Oper.quietAt execOp
  simp only [ho, hx, Instr.loadAt, Instr.sureAddr, Sem.run_bind, Sem.run_pure, Result.andThen_ok, run_loadVar_mid _ b off ty (CC i k).toList d hb' hu hd hi]
  exact ⟨rfl, rfl⟩
end
theorem build_cel (i k : Nat → Nat) (w : World) : (Instr.build 29 #[(0, .agg (FC i)), (1, .agg (FC k))]).run Try.prog w = .ok (.agg (CC i k)) w := by kernel_rfl
theorem build_cel0 (w : World) : (Instr.build 29 #[]).run Try.prog w = .ok (.agg (CC zeroF zeroF)) w := by kernel_rfl
section
variable {P : Program} {ops : Array Oper} {rest : List Oper} {o : Oper} {a : Act} {w : World}
/-- A struct of two parts is built. -/
theorem wpList_build2 {Q : Exit → Act → World → Prop} (hgd : o.guard = none) (T : TypeId) (m n : Nat) (x y : Operand) (ho : o.op = .build T #[(m, x), (n, y)]) {u v r : Value} (hx : a.eval x = u) (hy : a.eval y = v)
    (hr : ∀ w, (Instr.build T #[(m, u), (n, v)]).run P w = .ok r w) (h : wpList P ops Q rest (a.put o.dst r) w) : wpList P ops Q (o :: rest) a w :=
  wpList_plain hgd fun K hK => by
    unfold Oper.wp execOp
    simp only [ho, List.map_toArray, List.map_cons, List.map_nil, hx, hy, Sem.run_bind, hr, Result.andThen_ok, Sem.run_pure]
    exact hK _ _ h
open Go.Sort in
theorem wpQuiet_build2 {C : World → Prop} {Q : Act → Prop} (hgd : o.guard = none) (T : TypeId) (m n : Nat) (x y : Operand) (ho : o.op = .build T #[(m, x), (n, y)]) {u v r : Value} (hx : a.eval x = u) (hy : a.eval y = v)
    (hr : ∀ w, (Instr.build T #[(m, u), (n, v)]).run P w = .ok r w) (h : wpQuiet P ops C Q rest (a.put o.dst r)) : wpQuiet P ops C Q (o :: rest) a := by
  unfold wpQuiet
  rw [if_pos (by simp [Region.wanted, hgd])]
  refine ⟨_, ?_, h⟩
  intro w' _
  unfold Oper.quietAt execOp
  simp only [ho, List.map_toArray, List.map_cons, List.map_nil, hx, hy, Sem.run_bind, hr, Result.andThen_ok, Sem.run_pure]
  exact ⟨rfl, rfl⟩
end
end Go.Proofs.Ytpmlepgnokbpaaa

/- PARTS: how a part lies in memory: a frame, an int8 and a slice of keys. The laws' own helpers over parts: szPart, toPart, intactPart. -/
namespace Go.Proofs.Ytpmlepgnokbpaaa
set_option maxRecDepth 100000
open Go.RowKit
set_option linter.unusedVariables false
set_option linter.unusedSimpArgs false
def PC (f : Nat → Nat) (e : Int) (v : Value) : Array Value := #[.int .u16 (f 0), .int .u16 (f 1), .int .u16 (f 2), .int .u16 (f 3), .int .u16 (f 4), .int .u16 (f 5), .int .u16 (f 6), .int .u16 (f 7), .int .u16 (f 8), .int .u16 (f 9), .int .u16 (f 10), .int .u16 (f 11), .int .i8 e, v]
theorem PC_list (f : Nat → Nat) (e : Int) (v : Value) : (PC f e v).toList = (FC f).toList ++ [.int .i8 e, v] := rfl
theorem PC_one (f : Nat → Nat) (e : Int) (v : Value) (hv : v.oneCell' = true) : ∀ u ∈ (PC f e v).toList, u.oneCell' = true := by
  intro u hu
  rw [PC_list, List.mem_append] at hu
  rcases hu with h | h
  · exact FC_one f u h
  · simp at h; rcases h with rfl | rfl
    · rfl
    · exact hv
theorem PC_zero : PC zeroF 0 (.slice none 0 0) = #[.int .u16 0, .int .u16 0, .int .u16 0, .int .u16 0, .int .u16 0, .int .u16 0, .int .u16 0, .int .u16 0, .int .u16 0, .int .u16 0, .int .u16 0, .int .u16 0, .int .i8 0, .slice none 0 0] := rfl
def PartAt (w : World) (g : Nat) (t : TypeId) (f : Nat → Nat) (e : Int) (v : Value) : Prop := Row w g t (PC f e v)
section
variable {w w' : World} {g : Nat} {t : TypeId} {f : Nat → Nat} {e : Int} {v : Value}
theorem PartAt.new (w : World) (t : TypeId) (f : Nat → Nat) (e : Int) (v : Value) : PartAt (w.alloc (.cells (PC f e v) t)) w.heap.size t f e v := Row.new w t _
theorem PartAt.lt (h : PartAt w g t f e v) : g < w.heap.size := Row.lt h
theorem PartAt.alloc (h : PartAt w g t f e v) (o : Obj) : PartAt (w.alloc o) g t f e v := Row.alloc h o
theorem PartAt.below {B : Nat} (h : PartAt w g t f e v) (hb : Below B w w') (hg : g < B) : PartAt w' g t f e v := Row.below h hb hg
theorem PartAt.wrote {B : Nat} (h : PartAt w g t f e v) (hb : Wrote B w w') (hg : g ≠ B) : PartAt w' g t f e v := hb.row h hg
theorem PartAt.other (h : PartAt w g t f e v) {a : Addr} (u : Value) (hn : g ≠ a.block) : PartAt (w.setCell a u) g t f e v := Row.other h u hn
theorem PartAt.setRowOther {g' : Nat} (h : PartAt w g t f e v) (cs : Array Value) (hn : g ≠ g') : PartAt (w.setRow g' cs) g t f e v := Row.setRowOther h cs hn
theorem PartAt.free (h : PartAt w g t f e v) (k : Nat) : w.frozen? ⟨g, k, none⟩ = false := Row.free h k
theorem PartAt.ink (h : PartAt w g t f e v) : w.rangeAt g 0 (FC f).toList := fun j u hu => by
  rw [Nat.zero_add, Row.cell h]
  have : (PC f e v).toList[j]? = some u := by rw [PC_list, List.getElem?_append_left ((List.getElem?_eq_some_iff.1 hu).1)]; exact hu
  simpa using this
theorem PartAt.ce (h : PartAt w g t f e v) : w.cell? ⟨g, 12, none⟩ = some (.int .i8 e) := Row.cell h 12
theorem PartAt.cv (h : PartAt w g t f e v) : w.cell? ⟨g, 13, none⟩ = some v := Row.cell h 13
theorem PartAt.setE (h : PartAt w g t f e v) (x : Int) : PartAt (w.setCell ⟨g, 12, none⟩ (.int .i8 x)) g t f x v := Row.set h 12 _
theorem PartAt.setV (h : PartAt w g t f e v) (u : Value) : PartAt (w.setCell ⟨g, 13, none⟩ u) g t f e u := Row.set h 13 _
theorem PartAt.setRow (h : PartAt w g t f e v) (f' : Nat → Nat) (e' : Int) (v' : Value) : PartAt (w.setRow g (PC f' e' v')) g t f' e' v' := Row.setRow h _
theorem PartAt.there (h : PartAt w g t f e v) : w.there g 0 12 := fun j hj => by
  refine ⟨?_, Row.free h _⟩
  have hlt : 0 + j < (PC f e v).size := by show 0 + j < 14; omega
  rw [Row.cell h, Array.getElem?_eq_getElem hlt]
  rfl
theorem PartAt.setInk (h : PartAt w g t f e v) (f' : Nat → Nat) : PartAt (w.setCells g 0 (FC f').toList) g t f' e v := by
  have h1 := Row.setCells (FC f').toList 0 _ w h (by show 0 + 12 ≤ 14; omega)
  exact h1
end
section
variable {P : Program} {ops : Array Oper} {rest : List Oper} {o : Oper} {a : Act} {w : World} {Q : Exit → Act → World → Prop} {g : Nat} {t : TypeId} {f : Nat → Nat} {e : Int} {v : Value}
theorem wpList_load_part (hgd : o.guard = none) (ty : TypeId) (x : Operand) (ho : o.op = .load ty x) (hx : a.eval x = .pointer (some ⟨g, 0, none⟩)) (hb : PartAt w g t f e v) {d : TypeDesc} (hu : P.underlying ty = some d) (hd : d.isRow = true) (hi : (P.info? ty).map (·.size) = some 14)
    (h : wpList P ops Q rest (a.put o.dst (.agg (PC f e v))) w) : wpList P ops Q (o :: rest) a w :=
  wpList_load_row hgd ty x ho g hx t (PC f e v) (0, 0) d hb hu (by cases d <;> simp_all [TypeDesc.isRow]) hi h
theorem wpList_store_part (hgd : o.guard = none) (ty : TypeId) (x y : Operand) (ho : o.op = .store ty x y) {f0 : Nat → Nat} {e0 : Int} {v0 : Value} (hb : PartAt w g t f0 e0 v0) (hv : v.oneCell' = true) (hx : a.eval x = .pointer (some ⟨g, 0, none⟩)) (hy : a.eval y = .agg (PC f e v)) (hi : (P.info? ty).map (·.size) = some 14)
    (h : PartAt (w.setRow g (PC f e v)) g t f e v → wpList P ops Q rest (a.put o.dst undef) (w.setRow g (PC f e v))) : wpList P ops Q (o :: rest) a w :=
  wpList_store_row hgd ty x y ho g hx hb hy rfl (PC_one f e v hv) hi (h (hb.setRow f e v))
theorem wpList_store_partInk (hgd : o.guard = none) (ty : TypeId) (x y : Operand) (ho : o.op = .store ty x y) (hb : PartAt w g t f e v) (hx : a.eval x = .pointer (some ⟨g, 0, none⟩)) {f' : Nat → Nat} (hy : a.eval y = .agg (FC f')) (hi : (P.info? ty).map (·.size) = some 12)
    (h : PartAt (w.setCells g 0 (FC f').toList) g t f' e v → Wrote g w (w.setCells g 0 (FC f').toList) → wpList P ops Q rest (a.put o.dst undef) (w.setCells g 0 (FC f').toList)) : wpList P ops Q (o :: rest) a w :=
  wpList_store_mid hgd ty x y ho g 0 (FC f') hx hy hb.there hi (Array.all_eq_true_iff_forall_mem.2 fun u hu => FC_one f' u (Array.mem_toList_iff.2 hu)) (h (hb.setInk f') (Wrote.setCells _ _ _ (Wrote.refl g w)))
end
/-- A copy of a track that a call has handed back: nil, if it may be; or a block of its own, with spare room. -/
def TrGiven (L : List (Int × Int × Int)) (b : Bool) (base : Nat) (v : Value) (w : World) : Prop :=
  (b = true ∧ v = .slice none 0 0 ∧ L.length = 0) ∨ ∃ g, v = .slice (some ⟨g, 0, none⟩) L.length (L.length + roomN L.length) ∧ base ≤ g ∧ Held eKy w g 141 (roomy fillK L)
theorem TrGiven.one {L : List (Int × Int × Int)} {b : Bool} {base : Nat} {v : Value} {w : World} (h : TrGiven L b base v w) : v.oneCell' = true := by
  rcases h with ⟨_, rfl, _⟩ | ⟨g, rfl, _⟩ <;> rfl
theorem TrGiven.slice {L : List (Int × Int × Int)} {b : Bool} {base : Nat} {v : Value} {w : World} (h : TrGiven L b base v w) : ∃ A n c, v = .slice A n c := by
  rcases h with ⟨_, rfl, _⟩ | ⟨g, rfl, _⟩ <;> exact ⟨_, _, _, rfl⟩
theorem TrGiven.below {L : List (Int × Int × Int)} {b : Bool} {base : Nat} {v : Value} {w w' : World} (h : TrGiven L b base v w) (hb : Below w.heap.size w w') : TrGiven L b base v w' := by
  rcases h with h | ⟨g, hv, hg, hh⟩
  · exact .inl h
  · exact .inr ⟨g, hv, hg, hh.below hb hh.lt⟩
theorem TrGiven.wrote {L : List (Int × Int × Int)} {b : Bool} {base B : Nat} {v : Value} {w w' : World} (h : TrGiven L b base v w) (k : Wrote B w w') (hB : B < base) : TrGiven L b base v w' := by
  rcases h with h | ⟨g, hv, hg, hh⟩
  · exact .inl h
  · exact .inr ⟨g, hv, hg, Held.wrote k hh (by omega)⟩
theorem TrGiven.sl {L : List (Int × Int × Int)} {b : Bool} {base : Nat} {v : Value} {w : World} (h : TrGiven L b base v w) (hL : L.length ≤ 1000000) : SlAt eKy w w.heap.size v L := by
  rcases h with ⟨_, rfl, h0⟩ | ⟨g, rfl, hg, hh⟩
  · rw [List.eq_nil_of_length_eq_zero h0]; exact SlAt.nil_ (Nat.zero_le _) _
  · exact (hh.sl (n := L.length) (c := L.length + roomN L.length) (by rw [roomy_length]; omega) (by omega) (by have := roomN_le L.length; unfold maxLen; omega)).roomy
theorem toTrack_given (v : Value) (L : List (Int × Int × Int)) (b : Bool) (w : World) (hL : L.length ≤ 1000000) (h : SlAt eKy w w.heap.size v L) :
    Calls Try.prog 87 #[v, .bool b] w fun e w' => ∃ v', e = .returned v' ∧ TrGiven L b w.heap.size v' w' ∧ Below w.heap.size w w' := by
  by_cases hb : b = false ∨ 0 < L.length
  · refine (toTrack_any v L b w hL h hb).mono ?_
    rintro e w' ⟨g, rfl, hg, hh, hb'⟩
    exact ⟨_, rfl, .inr ⟨g, rfl, hg, hh⟩, hb'⟩
  · have h0 : L.length = 0 := by omega
    have hbt : b = true := by cases b <;> simp_all
    subst hbt
    refine (toTrack_bare v L w h h0).mono ?_
    rintro e w' ⟨rfl, rfl⟩
    exact ⟨_, rfl, .inl ⟨rfl, rfl, h0⟩, Below.refl _ _⟩
set_option maxHeartbeats 1000000 in
theorem szPart_any (f : Nat → Nat) (x : Int) (A : Option Addr) (n c : Nat) (w : World) (hn : n ≤ maxLen) :
    Calls Try.prog 48 #[.agg (PC f x (.slice A n c)), .int .i64 1000000] w fun e w' => e = .returned (.int .i64 (if (n : Int) ≤ 1000000 then 1000000 - (n : Int) else -1)) ∧ Below w.heap.size w w' := by
  have a1 := PartAt.new w 70 f x (.slice A n c)
  have h0 := (Below.refl w.heap.size w).alloc (Nat.le_refl _) (.cells (PC f x (.slice A n c)) 70)
  have c1 := a1.cv
  have cS := fun w' => szTrack_from A n c 1000000 w' hn (by omega) (by omega)
  by_cases h : (n : Int) ≤ 1000000
  · rw [if_pos h] at cS ⊢
    have d : decide (1000000 - (n : Int) < 0) = false := decide_eq_false (by omega)
    generalize 1000000 - (n : Int) = z at *
    clear h
    go_enter Try.func48, Try.ntmps48
    go_wp2_with (go_at_call 85; refine (cS _).mono ?_; rintro e w' ⟨rfl, rfl⟩)
    go_ret
    exact ⟨rfl, h0⟩
  · rw [if_neg h] at cS ⊢
    clear h
    go_enter Try.func48, Try.ntmps48
    go_wp2_with (go_at_call 85; refine (cS _).mono ?_; rintro e w' ⟨rfl, rfl⟩)
    go_ret
    exact ⟨rfl, h0⟩
set_option maxHeartbeats 1000000 in
theorem toPart_any (f : Nat → Nat) (x : Int) (v : Value) (L : List (Int × Int × Int)) (b : Bool) (w : World) (hL : L.length ≤ 1000000) (h : SlAt eKy w w.heap.size v L) :
    Calls Try.prog 50 #[.agg (PC f x v), .bool b] w fun e w' => ∃ v', e = .returned (.agg (PC f x v')) ∧ TrGiven L b w.heap.size v' w' ∧ Below w.heap.size w w' := by
  obtain ⟨A, c, rfl⟩ := h.form
  have a1 := ((PartAt.new w 70 f x (.slice A L.length c)).alloc (.cells (PC zeroF 0 (.slice none 0 0)) 76)).alloc (.cells (PC zeroF 0 (.slice none 0 0)) 76)
  have a2 := (PartAt.new (w.alloc (.cells (PC f x (.slice A L.length c)) 70)) 76 zeroF 0 (.slice none 0 0)).alloc (.cells (PC zeroF 0 (.slice none 0 0)) 76)
  have a3 := PartAt.new ((w.alloc (.cells (PC f x (.slice A L.length c)) 70)).alloc (.cells (PC zeroF 0 (.slice none 0 0)) 76)) 76 zeroF 0 (.slice none 0 0)
  rw [World.size_alloc] at a2
  rw [World.size_alloc, World.size_alloc] at a3
  have h0 := (((Below.refl w.heap.size w).alloc (Nat.le_refl _) (.cells (PC f x (.slice A L.length c)) 70)).alloc (by simp) (.cells (PC zeroF 0 (.slice none 0 0)) 76)).alloc (by simp; omega) (.cells (PC zeroF 0 (.slice none 0 0)) 76)
  have cT := fun w' (hb : Below w.heap.size w w') => toTrack_given _ L b w' hL (h.later hb)
  clear h
  rw [PC_zero] at a1 a2 a3 h0
  go_enter Try.func50, Try.ntmps50
  go_wp2_with (first
    | (refine wpList_load_at rfl 23 22 _ rfl _ _ rfl (by with_reducible exact a1.ink) Try.underlying23 (by kernel_rfl) ?_)
    | (go_at_call 26; refine (toFrame_any _ _).mono ?_; rintro e w2 ⟨rfl, hb⟩; replace a1 := a1.below hb a1.lt; replace a2 := a2.below hb a2.lt; replace a3 := a3.below hb a3.lt; replace h0 := grown_below h0 hb h0.size; clear hb)
    | (refine wpList_store_partInk rfl 27 _ _ rfl (by with_reducible exact a3) rfl rfl (by kernel_rfl) ?_; intro a3' hw; replace a1 := a1.wrote hw (by omega); replace a2 := a2.wrote hw (by omega); replace h0 := hw.below h0 (by omega) h0.size; clear a3; have a3 := a3'; clear hw a3'; generalize World.setCells _ _ _ _ = w3 at *; have c1 := a1.ce; have d1 := a3.ce; have f1 := a3.free 12; replace a1 := a1.other (a := ⟨w.heap.size + 1 + 1, 12, none⟩) (.int .i8 x) (by show w.heap.size ≠ w.heap.size + 1 + 1; omega); replace a2 := a2.other (a := ⟨w.heap.size + 1 + 1, 12, none⟩) (.int .i8 x) (by show w.heap.size + 1 ≠ w.heap.size + 1 + 1; omega); replace a3 := a3.setE x; have c2 := a1.cv; replace h0 := h0.setCell (p := ⟨w.heap.size + 1 + 1, 12, none⟩) (by show w.heap.size ≤ w.heap.size + 1 + 1; omega) (.int .i8 x))
    | (go_at_call 87; refine (cT _ h0).mono ?_; have z3 := a3.lt; rintro e w4 ⟨u, rfl, hT, hb⟩; have hu := hT.slice; rcases hu with ⟨A2, n2, c2', rfl⟩; clear cT c1 d1 f1 c2; replace a2 := a2.below hb a2.lt; replace a3 := a3.below hb a3.lt; replace h0 := grown_below h0 hb h0.size; clear hb a1; have d2 := a3.cv; have f2 := a3.free 13; replace a2 := a2.other (a := ⟨w.heap.size + 1 + 1, 13, none⟩) (.slice A2 n2 c2') (by show w.heap.size + 1 ≠ w.heap.size + 1 + 1; omega); replace a3 := a3.setV (.slice A2 n2 c2'); replace h0 := h0.setCell (p := ⟨w.heap.size + 1 + 1, 13, none⟩) (by show w.heap.size ≤ w.heap.size + 1 + 1; omega) (.slice A2 n2 c2'); replace hT := hT.wrote (Wrote.setCell (Wrote.refl (w.heap.size + 1 + 1) w4) (p := ⟨w.heap.size + 1 + 1, 13, none⟩) rfl (.slice A2 n2 c2')) z3)
    | (refine wpList_load_part rfl 76 _ rfl rfl (by with_reducible exact a3) Try.underlying76 rfl (by kernel_rfl) ?_)
    | (refine wpList_store_part rfl 76 _ _ rfl (by with_reducible exact a2) hT.one rfl rfl (by kernel_rfl) ?_; intro a2'))
  refine bodyPost_ret_row (p := 4) (ty := 76) rfl rfl a2' Try.underlying76 rfl (by kernel_rfl) rfl ⟨_, rfl, ?_, below_setRow h0 (by omega) _⟩
  rcases hT with hT | ⟨g, hv, hg, hh⟩
  · exact .inl hT
  · exact .inr ⟨g, hv, by omega, hh.setRowOther _ (by omega)⟩
end Go.Proofs.Ytpmlepgnokbpaaa
