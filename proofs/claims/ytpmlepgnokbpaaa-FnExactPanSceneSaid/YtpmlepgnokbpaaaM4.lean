import Derived.Test.YtpmlepgnokbpaaaRows
import Derived.Test.YtpmlepgnokbpaaaM2
import Derived.Test.YtpmlepgnokbpaaaM3
import Derived.Test.YtpmlepgnokbpaaaM1
/- The laws' own helpers over books: roomBehind, szBook, eqBook. -/
namespace Go.Proofs.Ytpmlepgnokbpaaa
set_option maxRecDepth 100000
open Go.RowKit
set_option linter.unusedVariables false
theorem room_any (n : Nat) (w : World) (h : n ≤ 1000000) :
    Calls Try.prog 57 #[.int .i64 n] w fun e w' => e = .returned (.int .i64 (roomN n)) ∧ w = w' := by
  by_cases h6 : n % 6 = 5
  · have h1 : ((n : Int) % 6 == 5) = true := by simp; omega
    have hv : roomN n = 0 := by simp [roomN, h6]
    go_enter Try.func57, Try.ntmps57
    go_wp2
    go_ret
    exact ⟨ret_int (by rw [hv]; rfl), rfl⟩
  · have h1 : ((n : Int) % 6 == 5) = false := by simp; omega
    by_cases h3 : n % 3 = 0
    · have h2 : ((n : Int) % 3 == 0) = true := by simp; omega
      have hv : roomN n = 1 := by simp [roomN, h6, h3]
      clear h6 h3
      go_enter Try.func57, Try.ntmps57
      go_wp2
      go_ret
      exact ⟨ret_int (by rw [hv]; rfl), rfl⟩
    · have h2 : ((n : Int) % 3 == 0) = false := by simp; omega
      have hv : roomN n = n := by simp [roomN, h6, h3]
      clear h6 h3
      have HV := Lib.hid hv
      clear hv
      go_enter Try.func57, Try.ntmps57
      go_wp2
      go_ret
      exact ⟨ret_int (by rw [HV.out]), rfl⟩
set_option maxHeartbeats 400000 in
theorem eqBook_any (u v : Value) (L M : List (Nat → Nat)) (w : World) (hu : SlAt eFr w w.heap.size u L) (hv : SlAt eFr w w.heap.size v M) :
    Calls Try.prog 44 #[u, v] w fun e w' => e = .returned (.bool (eqB L M)) ∧ Below w.heap.size w w' := by
  obtain ⟨A, c, rfl, h1, h2, hA⟩ := hu
  obtain ⟨B, d, rfl, h3, h4, hB⟩ := hv
  unfold maxLen at h2 h4
  by_cases hl : L.length = M.length
  · have e1 : ((L.length : Int) != (M.length : Int)) = false := by simp [hl]
    have HL := Lib.hid hl
    clear hl
    go_enter Try.func44, Try.ntmps44
    go_wp2
    go_loopw [5] (fun i wr => ∃ k : Nat, k ≤ L.length ∧ i = .int .i64 k ∧ (∀ j, j < k → eqF (fAt L j) (fAt M j) = true) ∧ Below w.heap.size w wr) (fun i _ => L.length - (intOf i).toNat)
    case atStart => exact ⟨0, by omega, rfl, by omega, Below.refl _ _⟩
    case round =>
      obtain ⟨k, hk, rfl, he, hb⟩ := hrel
      have HE := Lib.hid he
      clear he
      by_cases hlt : k < L.length
      · have hltM : k < M.length := by rw [← HL.out]; exact hlt
        obtain ⟨b1, o1, rfl, hb1, r1⟩ := hA (by omega)
        obtain ⟨b2, o2, rfl, hb2, r2⟩ := hB (by omega)
        have g1 := range_below (range_part r1 (fAt_get hlt)) hb hb1
        have g2 := range_below (range_part r2 (fAt_get hltM)) hb hb2
        have l1 : b1 < wr.heap.size := Nat.lt_of_lt_of_le hb1 hb.size
        have l2 : b2 < wr.heap.size := Nat.lt_of_lt_of_le hb2 hb.size
        rw [eFr_n] at g1 g2
        clear hA hB r1 r2
        go_wp2_with fail
        refine wp_region_calm (by kernel_rfl) (by kernel_rfl) ?_
        repeat (first | (refine wpQuiet_load_at rfl 27 22 _ rfl _ _ rfl (by first | exact g1 | exact g2) (by first | exact l1 | exact l2) Try.underlying27 (by kernel_rfl) ?_) | quiet_step (exact Calls.regrown_of (eqFrame_any _ _ _)))
        refine wpQuiet_nil ?_
        intro w3 hb3
        replace hb := grown_below hb hb3 hb.size
        clear g1 g2 hb3
        cases hq : eqF (fAt L k) (fAt M k) with
        | true =>
          have HQ := Lib.hid hq
          go_wp2
          go_roundw
          case rel =>
            go_light
            refine ⟨k + 1, by omega, by go_num, ?_, hb⟩
            intro j hj
            rcases Nat.lt_succ_iff_lt_or_eq.1 hj with h | rfl
            · exact HE.out j h
            · exact HQ.out
          case measure => simp [intOf]; omega
        | false =>
          have HQ := Lib.hid hq
          go_wp2
          go_ret
          exact ⟨ret_bool (eqB_false hlt HQ.out).symm, hb⟩
      · go_wp2
        go_ret
        have hkl : k = L.length := by omega
        subst hkl
        exact ⟨ret_bool ((eqB_iff HL.out).2 HE.out).symm, hb⟩
  · have e1 : ((L.length : Int) != (M.length : Int)) = true := by simp; omega
    have HL := Lib.hid hl
    clear hl
    go_enter Try.func44, Try.ntmps44
    go_wp2
    go_ret
    exact ⟨ret_bool (eqB_len HL.out).symm, Below.refl _ _⟩
/-- What spare room is filled with. -/
def fillF : Nat → Nat := fun i => if i = 0 then 60201 else 0
theorem infoFr : (Try.prog.info? 27).map (fun i => (i.zero, i.size, i.bytes)) = some (some (.agg (FC zeroF)), 12, 24) := by kernel_rfl
theorem build_fill (w : World) : (Instr.build 27 #[(0, .int .u16 60201)]).run Try.prog w = .ok (.agg (FC fillF)) w := by kernel_rfl
/-- What a call hands back that copies a list: to be read. -/
def GivesSl {α : Type} (E : Enc α) (L : List α) (w : World) (e : Ending) (w' : World) : Prop :=
  ∃ u, e = .returned u ∧ SlAt E w' w'.heap.size u L ∧ Below w.heap.size w w'
theorem SlAt.roomy {α : Type} {E : Enc α} {w : World} {B : Nat} {v : Value} {z : α} {L : List α} (h : SlAt E w B v ((roomy z L).take L.length)) : SlAt E w B v L := by rw [roomy_take] at h; exact h
set_option maxHeartbeats 400000 in
theorem markBook_any (g n c : Nat) (k : Int) (w : World) (N : Nat) (hk : 0 ≤ k) (hk2 : k ≤ 1000000000) (hn : n ≤ 1000000) (hr : RowN w g 27 N) (hN : n * 12 ≤ N) :
    Calls Try.prog 46 #[.slice (some ⟨g, 0, none⟩) n c, .int .i64 k] w fun e w' => e = .returned (.int .i64 (k + ((n * 12 : Nat) : Int))) ∧ Marks w w' g 27 N (u16At k) (n * 12) := by
  have hm := Marks.start hr (u16At k)
  clear hr
  go_enter Try.func46, Try.ntmps46
  go_wp2
  go_loopw [1, 5] (fun kk i wr => ∃ p : Nat, p ≤ n ∧ i = .int .i64 p ∧ kk = .int .i64 (k + ((p * 12 : Nat) : Int)) ∧ Marks w wr g 27 N (u16At k) (p * 12)) (fun _ i _ => n - (intOf i).toNat)
  case atStart => exact ⟨0, by omega, rfl, by simp, by simpa using hm⟩
  case round =>
    clear hm
    obtain ⟨p, hp, rfl, rfl, hm⟩ := hrel
    by_cases hlt : p < n
    · go_wp2
      obtain ⟨wo, rfl⟩ : ∃ wo : World, wo = wr := ⟨_, rfl⟩
      go_loopw [1, 6] (fun kk i wr => ∃ q : Nat, q ≤ 12 ∧ i = .int .i64 q ∧ kk = .int .i64 (k + ((p * 12 + q : Nat) : Int)) ∧ Marks w wr g 27 N (u16At k) (p * 12 + q)) (fun _ i _ => 12 - (intOf i).toNat)
      case atStart => exact ⟨0, by omega, rfl, by simp, by simpa using hm⟩
      case round =>
        clear hm
        obtain ⟨q, hq, rfl, rfl, hm⟩ := hrel
        by_cases hlq : q < 12
        · obtain ⟨u0, c0⟩ := hm.row.cell (q := p * 12 + q) (by omega)
          have f0 := hm.row.free (p * 12 + q)
          go_wp2
          go_roundw
          case rel =>
            go_light
            exact ⟨q + 1, by omega, by go_num, by go_num, hm.step (by omega) (by rfl)⟩
          case measure => simp [intOf]; omega
        · have hq12 : q = 12 := by omega
          subst hq12
          go_wp2
          go_roundw
          case rel =>
            go_light
            exact ⟨p + 1, by omega, by go_num, by go_num, by rw [show (p + 1) * 12 = p * 12 + 12 by omega]; exact hm⟩
          case measure => simp [intOf]; omega
    · have hpn : p = n := by omega
      subst hpn
      go_wp2
      go_ret
      exact ⟨rfl, hm⟩
set_option maxHeartbeats 400000 in
theorem heldBook_any (g n c : Nat) (k : Int) (w : World) (hk : 0 ≤ k) (hk2 : k ≤ 1000) (hn : n ≤ 1000000) (hm : Marked w g (u16At k) (n * 12)) :
    Calls Try.prog 47 #[.slice (some ⟨g, 0, none⟩) n c, .int .i64 k] w fun e w' => e = .returned (.int .i64 (k + ((n * 12 : Nat) : Int))) ∧ w = w' := by
  go_enter Try.func47, Try.ntmps47
  go_wp2
  go_loop [1, 5] (fun kk i => ∃ p : Nat, p ≤ n ∧ i = .int .i64 p ∧ kk = .int .i64 (k + ((p * 12 : Nat) : Int))) (fun _ i => n - (intOf i).toNat)
  case atStart => exact ⟨0, by omega, rfl, by simp⟩
  case round =>
    obtain ⟨p, hp, rfl, rfl⟩ := hrel
    by_cases hlt : p < n
    · go_wp2
      go_loop [1, 6] (fun kk i => ∃ q : Nat, q ≤ 12 ∧ i = .int .i64 q ∧ kk = .int .i64 (k + ((p * 12 + q : Nat) : Int))) (fun _ i => 12 - (intOf i).toNat)
      case atStart => exact ⟨0, by omega, rfl, by simp⟩
      case round =>
        obtain ⟨q, hq, rfl, rfl⟩ := hrel
        by_cases hlq : q < 12
        · have c0 := hm (p * 12 + q) (by omega)
          unfold u16At at c0
          have e0 : (IntKind.u16.wrap (k + ((p * 12 + q : Nat) : Int)) != IntKind.u16.wrap (k + ((p * 12 + q : Nat) : Int))) = false := by simp
          go_wp2
          go_round
          case rel =>
            go_light
            exact ⟨q + 1, by omega, by go_num, by go_num⟩
          case measure => simp [intOf]; omega
        · have hq12 : q = 12 := by omega
          subst hq12
          go_wp2
          go_round
          case rel =>
            go_light
            exact ⟨p + 1, by omega, by go_num, by go_num⟩
          case measure => simp [intOf]; omega
    · have hpn : p = n := by omega
      subst hpn
      go_wp2
      go_ret
      exact ⟨rfl, rfl⟩
theorem eqBook_same (u v : Value) (L : List (Nat → Nat)) (w : World) (hu : SlAt eFr w w.heap.size u L) (hv : SlAt eFr w w.heap.size v L) :
    Calls Try.prog 44 #[u, v] w fun e w' => e = .returned (.bool true) ∧ Below w.heap.size w w' := by
  have := eqBook_any u v L L w hu hv
  rw [eqB_refl] at this
  exact this
theorem markBook_nil (A : Option Addr) (c : Nat) (k : Int) (w : World) :
    Calls Try.prog 46 #[.slice A 0 c, .int .i64 k] w fun e w' => e = .returned (.int .i64 k) ∧ w = w' := by
  go_enter Try.func46, Try.ntmps46
  go_wp2
  go_loop [1, 5] (fun kk i => kk = .int .i64 k ∧ i = .int .i64 0) (fun _ _ => 0)
  case atStart => exact ⟨rfl, rfl⟩
  case round =>
    obtain ⟨rfl, rfl⟩ := hrel
    go_wp2
    go_ret
    exact ⟨rfl, rfl⟩
theorem heldBook_nil (A : Option Addr) (c : Nat) (k : Int) (w : World) :
    Calls Try.prog 47 #[.slice A 0 c, .int .i64 k] w fun e w' => e = .returned (.int .i64 k) ∧ w = w' := by
  go_enter Try.func47, Try.ntmps47
  go_wp2
  go_loop [1, 5] (fun kk i => kk = .int .i64 k ∧ i = .int .i64 0) (fun _ _ => 0)
  case atStart => exact ⟨rfl, rfl⟩
  case round =>
    obtain ⟨rfl, rfl⟩ := hrel
    go_wp2
    go_ret
    exact ⟨rfl, rfl⟩
theorem markBook_own (v : Value) (M : List (Nat → Nat)) (base : Nat) (k : Int) (w : World) (hk : 0 ≤ k) (hk2 : k ≤ 1000) (hn : M.length ≤ 1000000) (h : OwnL eFr w base 27 v M) :
    Calls Try.prog 46 #[v, .int .i64 k] w fun e w' => e = .returned (.int .i64 (k + ((M.length * 12 : Nat) : Int))) ∧ w.grownBy w' v.ownBlock ∧ MarkedV w' v (u16At k) M.length (M.length * 12) := by
  rcases h.form with ⟨rfl, rfl⟩ | ⟨g, cap, R, rfl, hb, hg, h1, h2, hr⟩
  · refine (markBook_nil none 0 k w).mono ?_
    rintro e w' ⟨rfl, rfl⟩
    exact ⟨by simp, World.grownBy.refl w _, none, 0, rfl, .inl rfl⟩
  · refine (markBook_any g M.length cap k w _ hk (by omega) hn ⟨_, rfl, hr⟩ (by simp [Enc.cells_length, eFr_n])).mono ?_
    rintro e w' ⟨rfl, hm⟩
    exact ⟨rfl, hm.grown, some ⟨g, 0, none⟩, cap, rfl, .inr ⟨g, rfl, hm.row.lt, hm.cells⟩⟩
theorem heldBook_own (v : Value) (n : Nat) (k : Int) (w : World) (hk : 0 ≤ k) (hk2 : k ≤ 1000) (hn : n ≤ 1000000) (h : MarkedV w v (u16At k) n (n * 12)) :
    Calls Try.prog 47 #[v, .int .i64 k] w fun e w' => e = .returned (.int .i64 (k + ((n * 12 : Nat) : Int))) ∧ w = w' := by
  obtain ⟨A, c, rfl, rfl | ⟨g, rfl, _, hm⟩⟩ := h
  · refine (heldBook_nil A c k w).mono ?_
    rintro e w' ⟨rfl, rfl⟩
    exact ⟨by simp, rfl⟩
  · exact heldBook_any g n c k w hk hk2 hn hm
end Go.Proofs.Ytpmlepgnokbpaaa

/- The laws' own helpers over []int64: eqInt64S, markInt64S, heldInt64S. -/
namespace Go.Proofs.Ytpmlepgnokbpaaa
open Go.RowKit
set_option linter.unusedVariables false
theorem eq_of_getD {α : Type} {z : α} {L M : List α} (hl : L.length = M.length) (h : ∀ j, j < L.length → L.getD j z = M.getD j z) : L = M := by
  apply List.ext_getElem?
  intro i
  by_cases hi : i < L.length
  · have := h i hi
    simp only [List.getD_eq_getElem?_getD, List.getElem?_eq_getElem hi, List.getElem?_eq_getElem (show i < M.length by omega), Option.getD_some] at this
    rw [List.getElem?_eq_getElem hi, List.getElem?_eq_getElem (show i < M.length by omega), this]
  · rw [List.getElem?_eq_none (by omega), List.getElem?_eq_none (by omega)]
theorem getD_get {α : Type} {z : α} {L : List α} {i : Nat} (h : i < L.length) : L[i]? = some (L.getD i z) := by
  rw [List.getD_eq_getElem?_getD, List.getElem?_eq_getElem h]; rfl
/-- A cell of a list of numbers. -/
theorem int_cell {w : World} {k : IntKind} {b o : Nat} {L : List Int} (h : w.rangeAt b o ((eI k).cells L)) {i : Nat} (hi : i < L.length) : w.cell? ⟨b, o + i, none⟩ = some (.int k (L.getD i 0)) := by
  have := range_part h (getD_get (z := 0) hi) 0 _ rfl
  rwa [show (eI k).n = 1 from rfl, Nat.mul_one, Nat.add_zero] at this
theorem own_apart {u v : Value} {B : Nat} (h4 : ∀ k, u.ownBlock = some k → k < B) (h7 : ∀ k, v.ownBlock = some k → B ≤ k) : u.ownBlock = none ∨ u.ownBlock ≠ v.ownBlock := by
  cases hu : u.ownBlock with
  | none => exact .inl rfl
  | some k =>
    refine .inr fun e => ?_
    have := h4 k hu
    have := h7 k e.symm
    omega
end Go.Proofs.Ytpmlepgnokbpaaa

/- CELS: how a cel lies in memory: the rows of two frames, one behind the other; loads and stores of halves. Plain lemmas: no function of the program is named. -/
namespace Go.Proofs.Ytpmlepgnokbpaaa
open Go.RowKit
set_option linter.unusedVariables false
set_option linter.unusedSimpArgs false
def CC (i k : Nat → Nat) : Array Value := #[.int .u16 (i 0), .int .u16 (i 1), .int .u16 (i 2), .int .u16 (i 3), .int .u16 (i 4), .int .u16 (i 5), .int .u16 (i 6), .int .u16 (i 7), .int .u16 (i 8), .int .u16 (i 9), .int .u16 (i 10), .int .u16 (i 11), .int .u16 (k 0), .int .u16 (k 1), .int .u16 (k 2), .int .u16 (k 3), .int .u16 (k 4), .int .u16 (k 5), .int .u16 (k 6), .int .u16 (k 7), .int .u16 (k 8), .int .u16 (k 9), .int .u16 (k 10), .int .u16 (k 11)]
theorem CC_list (i k : Nat → Nat) : (CC i k).toList = (FC i).toList ++ (FC k).toList := rfl
theorem CC_one (i k : Nat → Nat) : ∀ v ∈ (CC i k).toList, v.oneCell' = true := by
  intro v hv
  rw [CC_list, List.mem_append] at hv
  rcases hv with h | h
  · exact FC_one i v h
  · exact FC_one k v h
theorem CC_zero : CC zeroF zeroF = #[.int .u16 0, .int .u16 0, .int .u16 0, .int .u16 0, .int .u16 0, .int .u16 0, .int .u16 0, .int .u16 0, .int .u16 0, .int .u16 0, .int .u16 0, .int .u16 0, .int .u16 0, .int .u16 0, .int .u16 0, .int .u16 0, .int .u16 0, .int .u16 0, .int .u16 0, .int .u16 0, .int .u16 0, .int .u16 0, .int .u16 0, .int .u16 0] := rfl
theorem CC_ext {i i' k k' : Nat → Nat} (hi : ∀ y, y < 12 → i y = i' y) (hk : ∀ y, y < 12 → k y = k' y) : CC i k = CC i' k' := by
  apply Array.toList_inj.1
  rw [CC_list, CC_list, FC_ext hi, FC_ext hk]
/-- Block g is a cel. -/
def CelAt (w : World) (g : Nat) (t : TypeId) (i k : Nat → Nat) : Prop := Row w g t (CC i k)
/-- A cel lies in block b from offset o on. -/
structure CelIn (w : World) (b o : Nat) (i k : Nat → Nat) : Prop where
  ink : w.rangeAt b o (FC i).toList
  cov : w.rangeAt b (o + 12) (FC k).toList
theorem celIn_range {w : World} {b o : Nat} {i k : Nat → Nat} (h : w.rangeAt b o (CC i k).toList) : CelIn w b o i k := by
  rw [CC_list] at h
  refine ⟨fun j v hv => h j v ?_, fun j v hv => ?_⟩
  · rw [List.getElem?_append_left ((List.getElem?_eq_some_iff.1 hv).1)]; exact hv
  · have := h (12 + j) v (by rw [List.getElem?_append_right (by show 12 ≤ 12 + j; omega)]; show (FC k).toList[12 + j - 12]? = _; rw [Nat.add_sub_cancel_left]; exact hv)
    rwa [← Nat.add_assoc] at this
theorem CelIn.range {w : World} {b o : Nat} {i k : Nat → Nat} (h : CelIn w b o i k) : w.rangeAt b o (CC i k).toList := by
  intro j v hv
  rw [CC_list] at hv
  rcases Nat.lt_or_ge j 12 with hj | hj
  · rw [List.getElem?_append_left (by show j < 12; exact hj)] at hv
    exact h.ink j v hv
  · rw [List.getElem?_append_right (by show 12 ≤ j; exact hj)] at hv
    have := h.cov (j - 12) v hv
    rwa [show o + 12 + (j - 12) = o + j by omega] at this
theorem CelIn.below {B : Nat} {w w' : World} {b o : Nat} {i k : Nat → Nat} (h : CelIn w b o i k) (hb : Below B w w') (hlt : b < B) : CelIn w' b o i k := ⟨range_below h.ink hb hlt, range_below h.cov hb hlt⟩
section
variable {w w' : World} {g : Nat} {t : TypeId} {i k : Nat → Nat}
theorem CelAt.new (w : World) (t : TypeId) (i k : Nat → Nat) : CelAt (w.alloc (.cells (CC i k) t)) w.heap.size t i k := Row.new w t _
theorem CelAt.lt (h : CelAt w g t i k) : g < w.heap.size := Row.lt h
theorem CelAt.alloc (h : CelAt w g t i k) (o : Obj) : CelAt (w.alloc o) g t i k := Row.alloc h o
theorem CelAt.below {B : Nat} (h : CelAt w g t i k) (hb : Below B w w') (hg : g < B) : CelAt w' g t i k := Row.below h hb hg
theorem CelAt.wrote {B : Nat} (h : CelAt w g t i k) (hb : Wrote B w w') (hg : g ≠ B) : CelAt w' g t i k := hb.row h hg
theorem CelAt.cells (h : CelAt w g t i k) : CelIn w g 0 i k := celIn_range (fun j v hv => by rw [Nat.zero_add, Row.cell h]; simpa using hv)
theorem CelAt.ink (h : CelAt w g t i k) : w.rangeAt g 0 (FC i).toList := h.cells.ink
theorem CelAt.cov (h : CelAt w g t i k) : w.rangeAt g 12 (FC k).toList := h.cells.cov
theorem CelAt.held (h : CelAt w g t i k) : Held eFr w g t [i, k] := h
theorem CelAt.of_held (h : Held eFr w g t [i, k]) : CelAt w g t i k := h
theorem CelAt.setRow (h : CelAt w g t i k) (i' k' : Nat → Nat) : CelAt (w.setRow g (CC i' k')) g t i' k' := Row.setRow h _
theorem CelAt.setRowOther {g' : Nat} (h : CelAt w g t i k) (cs : Array Value) (hn : g ≠ g') : CelAt (w.setRow g' cs) g t i k := Row.setRowOther h cs hn
theorem CelAt.drewN (h : CelAt w g t i k) (n : Nat) : CelAt (w.drewN n) g t i k := h
end
section
variable {P : Program} {ops : Array Oper} {rest : List Oper} {o : Oper} {a : Act} {w : World} {Q : Exit → Act → World → Prop} {g : Nat} {t : TypeId} {i k : Nat → Nat}
/-- A cel is loaded whole. -/
theorem wpList_load_cel (hgd : o.guard = none) (ty : TypeId) (x : Operand) (ho : o.op = .load ty x) (hx : a.eval x = .pointer (some ⟨g, 0, none⟩)) (hb : CelAt w g t i k) {d : TypeDesc} (hu : P.underlying ty = some d) (hd : d.isRow = true) (hi : (P.info? ty).map (·.size) = some 24)
    (h : wpList P ops Q rest (a.put o.dst (.agg (CC i k))) w) : wpList P ops Q (o :: rest) a w :=
  wpList_load_row hgd ty x ho g hx t (CC i k) (0, 0) d hb hu (by cases d <;> simp_all [TypeDesc.isRow]) hi h
/-- .. out of the middle of a block. -/
theorem wpList_load_celIn (hgd : o.guard = none) (ty : TypeId) (x : Operand) (ho : o.op = .load ty x) (b off : Nat) (hx : a.eval x = .pointer (some ⟨b, off, none⟩)) (hb : CelIn w b off i k) {d : TypeDesc} (hu : P.underlying ty = some d) (hd : d.isRow = true) (hi : (P.info? ty).map (·.size) = some 24)
    (h : wpList P ops Q rest (a.put o.dst (.agg (CC i k))) w) : wpList P ops Q (o :: rest) a w :=
  wpList_load_mid hgd ty x ho b off hx (CC i k).toList d hb.range hu hd hi h
/-- A cel is stored whole. -/
theorem wpList_store_cel (hgd : o.guard = none) (ty : TypeId) (x y : Operand) (ho : o.op = .store ty x y) {i0 k0 : Nat → Nat} (hb : CelAt w g t i0 k0) (hx : a.eval x = .pointer (some ⟨g, 0, none⟩)) (hy : a.eval y = .agg (CC i k)) (hi : (P.info? ty).map (·.size) = some 24)
    (h : CelAt (w.setRow g (CC i k)) g t i k → wpList P ops Q rest (a.put o.dst undef) (w.setRow g (CC i k))) : wpList P ops Q (o :: rest) a w :=
  wpList_store_row hgd ty x y ho g hx hb hy rfl (CC_one i k) hi (h (hb.setRow i k))
/-- A cel's ink is stored. -/
theorem wpList_store_ink (hgd : o.guard = none) (ty : TypeId) (x y : Operand) (ho : o.op = .store ty x y) (hb : CelAt w g t i k) (hx : a.eval x = .pointer (some ⟨g, 0, none⟩)) {f : Nat → Nat} (hy : a.eval y = .agg (FC f)) (hi : (P.info? ty).map (·.size) = some 12)
    (h : CelAt (w.setCells g 0 (FC f).toList) g t f k → Wrote g w (w.setCells g 0 (FC f).toList) → wpList P ops Q rest (a.put o.dst undef) (w.setCells g 0 (FC f).toList)) : wpList P ops Q (o :: rest) a w :=
  wpList_store_held (E := eFr) hgd ty x y ho hb.held (i := 0) (off := 0) (by simp) rfl hx f hy rfl hi (fun h1 h2 => h h1 h2)
/-- A cel's cover is stored. -/
theorem wpList_store_cov (hgd : o.guard = none) (ty : TypeId) (x y : Operand) (ho : o.op = .store ty x y) (hb : CelAt w g t i k) (hx : a.eval x = .pointer (some ⟨g, 12, none⟩)) {f : Nat → Nat} (hy : a.eval y = .agg (FC f)) (hi : (P.info? ty).map (·.size) = some 12)
    (h : CelAt (w.setCells g 12 (FC f).toList) g t i f → Wrote g w (w.setCells g 12 (FC f).toList) → wpList P ops Q rest (a.put o.dst undef) (w.setCells g 12 (FC f).toList)) : wpList P ops Q (o :: rest) a w :=
  wpList_store_held (E := eFr) hgd ty x y ho hb.held (i := 1) (off := 12) (by simp) rfl hx f hy rfl hi (fun h1 h2 => h h1 h2)
open Go.Sort in
theorem wpQuiet_load_celIn {Q : Act → Prop} (hgd : o.guard = none) (ty : TypeId) (x : Operand) (ho : o.op = .load ty x) (b off : Nat) (hx : a.eval x = .pointer (some ⟨b, off, none⟩)) (hb : CelIn w b off i k) (hlt : b < w.heap.size) {d : TypeDesc} (hu : P.underlying ty = some d) (hd : d.isRow = true) (hi : (P.info? ty).map (·.size) = some 24)
    (h : wpQuiet P ops (fun w' => ∃ p : Regrown, w' = grow (redrawn w p.d) p.os) Q rest (a.put o.dst (.agg (CC i k)))) : wpQuiet P ops (fun w' => ∃ p : Regrown, w' = grow (redrawn w p.d) p.os) Q (o :: rest) a := by
  unfold wpQuiet
  rw [if_pos (by simp [Region.wanted, hgd])]
  refine ⟨_, ?_, h⟩
  rintro w' ⟨p, rfl⟩
  have hb' : (grow (redrawn w p.d) p.os).rangeAt b off (CC i k).toList := range_below hb.range (below_regrown w p.d p.os) hlt
  unfold Oper.quietAt execOp
  simp only [ho, hx, Instr.loadAt, Instr.sureAddr, Sem.run_bind, Sem.run_pure, Result.andThen_ok, run_loadVar_mid _ b off ty (CC i k).toList d hb' hu hd hi]
  exact ⟨rfl, rfl⟩
end
theorem build_cel (i k : Nat → Nat) (w : World) : (Instr.build 29 #[(0, .agg (FC i)), (1, .agg (FC k))]).run Try.prog w = .ok (.agg (CC i k)) w := by kernel_rfl
theorem build_cel0 (w : World) : (Instr.build 29 #[]).run Try.prog w = .ok (.agg (CC zeroF zeroF)) w := by kernel_rfl
section
variable {P : Program} {ops : Array Oper} {rest : List Oper} {o : Oper} {a : Act} {w : World}
/-- A struct of two parts is built. -/
theorem wpList_build2 {Q : Exit → Act → World → Prop} (hgd : o.guard = none) (T : TypeId) (m n : Nat) (x y : Operand) (ho : o.op = .build T #[(m, x), (n, y)]) {u v r : Value} (hx : a.eval x = u) (hy : a.eval y = v)
    (hr : ∀ w, (Instr.build T #[(m, u), (n, v)]).run P w = .ok r w) (h : wpList P ops Q rest (a.put o.dst r) w) : wpList P ops Q (o :: rest) a w :=
  wpList_plain hgd fun K hK => by
    unfold Oper.wp execOp
    simp only [ho, List.map_toArray, List.map_cons, List.map_nil, hx, hy, Sem.run_bind, hr, Result.andThen_ok, Sem.run_pure]
    exact hK _ _ h
open Go.Sort in
theorem wpQuiet_build2 {C : World → Prop} {Q : Act → Prop} (hgd : o.guard = none) (T : TypeId) (m n : Nat) (x y : Operand) (ho : o.op = .build T #[(m, x), (n, y)]) {u v r : Value} (hx : a.eval x = u) (hy : a.eval y = v)
    (hr : ∀ w, (Instr.build T #[(m, u), (n, v)]).run P w = .ok r w) (h : wpQuiet P ops C Q rest (a.put o.dst r)) : wpQuiet P ops C Q (o :: rest) a := by
  unfold wpQuiet
  rw [if_pos (by simp [Region.wanted, hgd])]
  refine ⟨_, ?_, h⟩
  intro w' _
  unfold Oper.quietAt execOp
  simp only [ho, List.map_toArray, List.map_cons, List.map_nil, hx, hy, Sem.run_bind, hr, Result.andThen_ok, Sem.run_pure]
  exact ⟨rfl, rfl⟩
end
end Go.Proofs.Ytpmlepgnokbpaaa
