import Derived.Test.YtpmlepgnokbpaaaRows
import Derived.Test.YtpmlepgnokbpaaaM2
import Derived.Test.YtpmlepgnokbpaaaM3
/- KEYS: how a key lies in memory; the laws' own helpers over one key: toKey, fillerKey, eqKey. -/
namespace Go.Proofs.Ytpmlepgnokbpaaa
set_option maxRecDepth 100000
open Go.RowKit
set_option linter.unusedVariables false
def KC (s : Int × Int × Int) : Array Value := #[.int .i16 s.1, .int .i8 s.2.1, .int .i8 s.2.2]
def eKy : Enc (Int × Int × Int) := ⟨fun s => (KC s).toList, 3, fun _ => rfl, fun s v hv => by simp [KC] at hv; rcases hv with rfl | rfl | rfl <;> rfl⟩
theorem eKy_n : eKy.n = 3 := rfl
def zeroK : Int × Int × Int := (0, 0, 0)
def fillK : Int × Int × Int := (-30101, -101, -101)
/-- The key at an index. -/
def kAt (L : List (Int × Int × Int)) (i : Nat) : Int × Int × Int := L.getD i zeroK
theorem kAt_get {L : List (Int × Int × Int)} {i : Nat} (h : i < L.length) : L[i]? = some (kAt L i) := by
  unfold kAt
  rw [List.getD_eq_getElem?_getD, List.getElem?_eq_getElem h]; rfl
theorem ky_cell0 {w : World} {b o : Nat} {s : Int × Int × Int} (h : w.rangeAt b o (KC s).toList) : w.cell? ⟨b, o, none⟩ = some (.int .i16 s.1) := h 0 _ rfl
theorem ky_cell1 {w : World} {b o : Nat} {s : Int × Int × Int} (h : w.rangeAt b o (KC s).toList) : w.cell? ⟨b, o + 1, none⟩ = some (.int .i8 s.2.1) := h 1 _ rfl
theorem ky_cell2 {w : World} {b o : Nat} {s : Int × Int × Int} (h : w.rangeAt b o (KC s).toList) : w.cell? ⟨b, o + 2, none⟩ = some (.int .i8 s.2.2) := h 2 _ rfl
theorem ky_field0 (t x y : Int) (w : World) : (Instr.field 141 (.agg #[.int .i16 t, .int .i8 x, .int .i8 y]) 0).run Try.prog w = .ok (.int .i16 t) w := by kernel_rfl
theorem ky_field1 (t x y : Int) (w : World) : (Instr.field 141 (.agg #[.int .i16 t, .int .i8 x, .int .i8 y]) 1).run Try.prog w = .ok (.int .i8 x) w := by kernel_rfl
theorem ky_field2 (t x y : Int) (w : World) : (Instr.field 141 (.agg #[.int .i16 t, .int .i8 x, .int .i8 y]) 2).run Try.prog w = .ok (.int .i8 y) w := by kernel_rfl
/-- What a key's fields hold. -/
def ltK1 (s : Int × Int × Int) : Prop := (-32768 ≤ s.1 ∧ s.1 ≤ 32767) ∧ (-128 ≤ s.2.1 ∧ s.2.1 ≤ 127) ∧ -128 ≤ s.2.2 ∧ s.2.2 ≤ 127
def ltK (L : List (Int × Int × Int)) : Prop := ∀ s ∈ L, ltK1 s
theorem kAt_lt {L : List (Int × Int × Int)} (h : ltK L) (i : Nat) : ltK1 (kAt L i) := by
  by_cases hi : i < L.length
  · exact h _ (List.mem_of_getElem? (kAt_get hi))
  · unfold kAt
    rw [List.getD_eq_getElem?_getD, List.getElem?_eq_none (by omega)]
    simp [zeroK, ltK1]
set_option maxHeartbeats 400000 in
theorem toKey_any (s : Int × Int × Int) (w : World) :
    Calls Try.prog 109 #[.agg (KC s)] w fun e w' => e = .returned (.agg (KC s)) ∧ Below w.heap.size w w' := by
  have h0 := Below.refl w.heap.size w
  go_enter Try.func109, Try.ntmps109
  unfold KC
  go_wp2
  refine bodyPost_ret_row (p := 2) (ty := 141) (cs := KC s) rfl rfl (g := w.heap.size + 1) (t := 141) ?_ Try.underlying141 rfl (by kernel_rfl) rfl ⟨rfl, ?_⟩
  · have := (Row.new (w.alloc (.cells (KC s) 143)) 141 (KC s)).alloc (.cells (KC s) 141)
    rw [World.size_alloc] at this
    exact this
  · exact ((h0.alloc (Nat.le_refl _) _).alloc (by simp) _).alloc (by simp; omega) _
set_option maxHeartbeats 400000 in
theorem fillerK_any (w : World) :
    Calls Try.prog 110 #[] w fun e w' => e = .returned (.agg (KC fillK)) ∧ Below w.heap.size w w' := by
  go_enter Try.func110, Try.ntmps110
  go_wp2
  refine bodyPost_ret_row (p := 0) (ty := 141) (cs := KC fillK) rfl rfl (Row.new w 141 (KC fillK)) Try.underlying141 rfl (by kernel_rfl) rfl ⟨rfl, (Below.refl _ _).alloc (Nat.le_refl _) _⟩
set_option maxHeartbeats 400000 in
theorem eqKey_any (s t : Int × Int × Int) (w : World) :
    Calls Try.prog 120 #[.agg (KC s), .agg (KC t)] w fun e w' => e = .returned (.bool (decide (s = t))) ∧ Below w.heap.size w w' := by
  obtain ⟨a, b, p⟩ := s
  obtain ⟨c, d, q⟩ := t
  have hb := ((Below.refl w.heap.size w).alloc (Nat.le_refl _) (.cells (KC (a, b, p)) 141)).alloc (by simp) (.cells (KC (c, d, q)) 141)
  unfold KC
  unfold KC at hb
  by_cases h1 : a = c
  · by_cases h2 : b = d
    · by_cases h3 : p = q
      · have e1 : (a != c) = false := by simp [h1]
        have e2 : (b != d) = false := by simp [h2]
        have e3 : (p != q) = false := by simp [h3]
        have hv : decide ((a, b, p) = (c, d, q)) = true := by simp [h1, h2, h3]
        clear h1 h2 h3
        rw [hv]
        clear hv
        go_enter Try.func120, Try.ntmps120
        go_wp2
        go_ret
        exact ⟨rfl, hb⟩
      · have e1 : (a != c) = false := by simp [h1]
        have e2 : (b != d) = false := by simp [h2]
        have e3 : (p != q) = true := by simp [h3]
        have hv : decide ((a, b, p) = (c, d, q)) = false := by simp [h3]
        clear h1 h2 h3
        rw [hv]
        clear hv
        go_enter Try.func120, Try.ntmps120
        go_wp2
        go_ret
        exact ⟨rfl, hb⟩
    · have e1 : (a != c) = false := by simp [h1]
      have e2 : (b != d) = true := by simp [h2]
      have hv : decide ((a, b, p) = (c, d, q)) = false := by simp [h2]
      clear h1 h2
      rw [hv]
      clear hv
      go_enter Try.func120, Try.ntmps120
      go_wp2
      go_ret
      exact ⟨rfl, hb⟩
  · have e1 : (a != c) = true := by simp [h1]
    have hv : decide ((a, b, p) = (c, d, q)) = false := by simp [h1]
    clear h1
    rw [hv]
    clear hv
    go_enter Try.func120, Try.ntmps120
    go_wp2
    go_ret
    exact ⟨rfl, hb⟩
end Go.Proofs.Ytpmlepgnokbpaaa

/- The laws' own helpers over books: roomBehind, szBook, eqBook. -/
namespace Go.Proofs.Ytpmlepgnokbpaaa
set_option maxRecDepth 100000
open Go.RowKit
set_option linter.unusedVariables false
theorem room_any (n : Nat) (w : World) (h : n ≤ 1000000) :
    Calls Try.prog 57 #[.int .i64 n] w fun e w' => e = .returned (.int .i64 (roomN n)) ∧ w = w' := by
  by_cases h6 : n % 6 = 5
  · have h1 : ((n : Int) % 6 == 5) = true := by simp; omega
    have hv : roomN n = 0 := by simp [roomN, h6]
    go_enter Try.func57, Try.ntmps57
    go_wp2
    go_ret
    exact ⟨ret_int (by rw [hv]; rfl), rfl⟩
  · have h1 : ((n : Int) % 6 == 5) = false := by simp; omega
    by_cases h3 : n % 3 = 0
    · have h2 : ((n : Int) % 3 == 0) = true := by simp; omega
      have hv : roomN n = 1 := by simp [roomN, h6, h3]
      clear h6 h3
      go_enter Try.func57, Try.ntmps57
      go_wp2
      go_ret
      exact ⟨ret_int (by rw [hv]; rfl), rfl⟩
    · have h2 : ((n : Int) % 3 == 0) = false := by simp; omega
      have hv : roomN n = n := by simp [roomN, h6, h3]
      clear h6 h3
      have HV := Lib.hid hv
      clear hv
      go_enter Try.func57, Try.ntmps57
      go_wp2
      go_ret
      exact ⟨ret_int (by rw [HV.out]), rfl⟩
set_option maxHeartbeats 400000 in
theorem eqBook_any (u v : Value) (L M : List (Nat → Nat)) (w : World) (hu : SlAt eFr w w.heap.size u L) (hv : SlAt eFr w w.heap.size v M) :
    Calls Try.prog 44 #[u, v] w fun e w' => e = .returned (.bool (eqB L M)) ∧ Below w.heap.size w w' := by
  obtain ⟨A, c, rfl, h1, h2, hA⟩ := hu
  obtain ⟨B, d, rfl, h3, h4, hB⟩ := hv
  unfold maxLen at h2 h4
  by_cases hl : L.length = M.length
  · have e1 : ((L.length : Int) != (M.length : Int)) = false := by simp [hl]
    have HL := Lib.hid hl
    clear hl
    go_enter Try.func44, Try.ntmps44
    go_wp2
    go_loopw [5] (fun i wr => ∃ k : Nat, k ≤ L.length ∧ i = .int .i64 k ∧ (∀ j, j < k → eqF (fAt L j) (fAt M j) = true) ∧ Below w.heap.size w wr) (fun i _ => L.length - (intOf i).toNat)
    case atStart => exact ⟨0, by omega, rfl, by omega, Below.refl _ _⟩
    case round =>
      obtain ⟨k, hk, rfl, he, hb⟩ := hrel
      have HE := Lib.hid he
      clear he
      by_cases hlt : k < L.length
      · have hltM : k < M.length := by rw [← HL.out]; exact hlt
        obtain ⟨b1, o1, rfl, hb1, r1⟩ := hA (by omega)
        obtain ⟨b2, o2, rfl, hb2, r2⟩ := hB (by omega)
        have g1 := range_below (range_part r1 (fAt_get hlt)) hb hb1
        have g2 := range_below (range_part r2 (fAt_get hltM)) hb hb2
        have l1 : b1 < wr.heap.size := Nat.lt_of_lt_of_le hb1 hb.size
        have l2 : b2 < wr.heap.size := Nat.lt_of_lt_of_le hb2 hb.size
        rw [eFr_n] at g1 g2
        clear hA hB r1 r2
        go_wp2_with fail
        refine wp_region_calm (by kernel_rfl) (by kernel_rfl) ?_
        repeat (first | (refine wpQuiet_load_at rfl 27 22 _ rfl _ _ rfl (by first | exact g1 | exact g2) (by first | exact l1 | exact l2) Try.underlying27 (by kernel_rfl) ?_) | quiet_step (exact Calls.regrown_of (eqFrame_any _ _ _)))
        refine wpQuiet_nil ?_
        intro w3 hb3
        replace hb := grown_below hb hb3 hb.size
        clear g1 g2 hb3
        cases hq : eqF (fAt L k) (fAt M k) with
        | true =>
          have HQ := Lib.hid hq
          go_wp2
          go_roundw
          case rel =>
            go_light
            refine ⟨k + 1, by omega, by go_num, ?_, hb⟩
            intro j hj
            rcases Nat.lt_succ_iff_lt_or_eq.1 hj with h | rfl
            · exact HE.out j h
            · exact HQ.out
          case measure => simp [intOf]; omega
        | false =>
          have HQ := Lib.hid hq
          go_wp2
          go_ret
          exact ⟨ret_bool (eqB_false hlt HQ.out).symm, hb⟩
      · go_wp2
        go_ret
        have hkl : k = L.length := by omega
        subst hkl
        exact ⟨ret_bool ((eqB_iff HL.out).2 HE.out).symm, hb⟩
  · have e1 : ((L.length : Int) != (M.length : Int)) = true := by simp; omega
    have HL := Lib.hid hl
    clear hl
    go_enter Try.func44, Try.ntmps44
    go_wp2
    go_ret
    exact ⟨ret_bool (eqB_len HL.out).symm, Below.refl _ _⟩
/-- What spare room is filled with. -/
def fillF : Nat → Nat := fun i => if i = 0 then 60201 else 0
theorem infoFr : (Try.prog.info? 27).map (fun i => (i.zero, i.size, i.bytes)) = some (some (.agg (FC zeroF)), 12, 24) := by kernel_rfl
theorem build_fill (w : World) : (Instr.build 27 #[(0, .int .u16 60201)]).run Try.prog w = .ok (.agg (FC fillF)) w := by kernel_rfl
/-- What a call hands back that copies a list: to be read. -/
def GivesSl {α : Type} (E : Enc α) (L : List α) (w : World) (e : Ending) (w' : World) : Prop :=
  ∃ u, e = .returned u ∧ SlAt E w' w'.heap.size u L ∧ Below w.heap.size w w'
theorem SlAt.roomy {α : Type} {E : Enc α} {w : World} {B : Nat} {v : Value} {z : α} {L : List α} (h : SlAt E w B v ((roomy z L).take L.length)) : SlAt E w B v L := by rw [roomy_take] at h; exact h
set_option maxHeartbeats 400000 in
theorem markBook_any (g n c : Nat) (k : Int) (w : World) (N : Nat) (hk : 0 ≤ k) (hk2 : k ≤ 1000000000) (hn : n ≤ 1000000) (hr : RowN w g 27 N) (hN : n * 12 ≤ N) :
    Calls Try.prog 46 #[.slice (some ⟨g, 0, none⟩) n c, .int .i64 k] w fun e w' => e = .returned (.int .i64 (k + ((n * 12 : Nat) : Int))) ∧ Marks w w' g 27 N (u16At k) (n * 12) := by
  have hm := Marks.start hr (u16At k)
  clear hr
  go_enter Try.func46, Try.ntmps46
  go_wp2
  go_loopw [1, 5] (fun kk i wr => ∃ p : Nat, p ≤ n ∧ i = .int .i64 p ∧ kk = .int .i64 (k + ((p * 12 : Nat) : Int)) ∧ Marks w wr g 27 N (u16At k) (p * 12)) (fun _ i _ => n - (intOf i).toNat)
  case atStart => exact ⟨0, by omega, rfl, by simp, by simpa using hm⟩
  case round =>
    clear hm
    obtain ⟨p, hp, rfl, rfl, hm⟩ := hrel
    by_cases hlt : p < n
    · go_wp2
      obtain ⟨wo, rfl⟩ : ∃ wo : World, wo = wr := ⟨_, rfl⟩
      go_loopw [1, 6] (fun kk i wr => ∃ q : Nat, q ≤ 12 ∧ i = .int .i64 q ∧ kk = .int .i64 (k + ((p * 12 + q : Nat) : Int)) ∧ Marks w wr g 27 N (u16At k) (p * 12 + q)) (fun _ i _ => 12 - (intOf i).toNat)
      case atStart => exact ⟨0, by omega, rfl, by simp, by simpa using hm⟩
      case round =>
        clear hm
        obtain ⟨q, hq, rfl, rfl, hm⟩ := hrel
        by_cases hlq : q < 12
        · obtain ⟨u0, c0⟩ := hm.row.cell (q := p * 12 + q) (by omega)
          have f0 := hm.row.free (p * 12 + q)
          go_wp2
          go_roundw
          case rel =>
            go_light
            exact ⟨q + 1, by omega, by go_num, by go_num, hm.step (by omega) (by rfl)⟩
          case measure => simp [intOf]; omega
        · have hq12 : q = 12 := by omega
          subst hq12
          go_wp2
          go_roundw
          case rel =>
            go_light
            exact ⟨p + 1, by omega, by go_num, by go_num, by rw [show (p + 1) * 12 = p * 12 + 12 by omega]; exact hm⟩
          case measure => simp [intOf]; omega
    · have hpn : p = n := by omega
      subst hpn
      go_wp2
      go_ret
      exact ⟨rfl, hm⟩
set_option maxHeartbeats 400000 in
theorem heldBook_any (g n c : Nat) (k : Int) (w : World) (hk : 0 ≤ k) (hk2 : k ≤ 1000) (hn : n ≤ 1000000) (hm : Marked w g (u16At k) (n * 12)) :
    Calls Try.prog 47 #[.slice (some ⟨g, 0, none⟩) n c, .int .i64 k] w fun e w' => e = .returned (.int .i64 (k + ((n * 12 : Nat) : Int))) ∧ w = w' := by
  go_enter Try.func47, Try.ntmps47
  go_wp2
  go_loop [1, 5] (fun kk i => ∃ p : Nat, p ≤ n ∧ i = .int .i64 p ∧ kk = .int .i64 (k + ((p * 12 : Nat) : Int))) (fun _ i => n - (intOf i).toNat)
  case atStart => exact ⟨0, by omega, rfl, by simp⟩
  case round =>
    obtain ⟨p, hp, rfl, rfl⟩ := hrel
    by_cases hlt : p < n
    · go_wp2
      go_loop [1, 6] (fun kk i => ∃ q : Nat, q ≤ 12 ∧ i = .int .i64 q ∧ kk = .int .i64 (k + ((p * 12 + q : Nat) : Int))) (fun _ i => 12 - (intOf i).toNat)
      case atStart => exact ⟨0, by omega, rfl, by simp⟩
      case round =>
        obtain ⟨q, hq, rfl, rfl⟩ := hrel
        by_cases hlq : q < 12
        · have c0 := hm (p * 12 + q) (by omega)
          unfold u16At at c0
          have e0 : (IntKind.u16.wrap (k + ((p * 12 + q : Nat) : Int)) != IntKind.u16.wrap (k + ((p * 12 + q : Nat) : Int))) = false := by simp
          go_wp2
          go_round
          case rel =>
            go_light
            exact ⟨q + 1, by omega, by go_num, by go_num⟩
          case measure => simp [intOf]; omega
        · have hq12 : q = 12 := by omega
          subst hq12
          go_wp2
          go_round
          case rel =>
            go_light
            exact ⟨p + 1, by omega, by go_num, by go_num⟩
          case measure => simp [intOf]; omega
    · have hpn : p = n := by omega
      subst hpn
      go_wp2
      go_ret
      exact ⟨rfl, rfl⟩
theorem eqBook_same (u v : Value) (L : List (Nat → Nat)) (w : World) (hu : SlAt eFr w w.heap.size u L) (hv : SlAt eFr w w.heap.size v L) :
    Calls Try.prog 44 #[u, v] w fun e w' => e = .returned (.bool true) ∧ Below w.heap.size w w' := by
  have := eqBook_any u v L L w hu hv
  rw [eqB_refl] at this
  exact this
theorem markBook_nil (A : Option Addr) (c : Nat) (k : Int) (w : World) :
    Calls Try.prog 46 #[.slice A 0 c, .int .i64 k] w fun e w' => e = .returned (.int .i64 k) ∧ w = w' := by
  go_enter Try.func46, Try.ntmps46
  go_wp2
  go_loop [1, 5] (fun kk i => kk = .int .i64 k ∧ i = .int .i64 0) (fun _ _ => 0)
  case atStart => exact ⟨rfl, rfl⟩
  case round =>
    obtain ⟨rfl, rfl⟩ := hrel
    go_wp2
    go_ret
    exact ⟨rfl, rfl⟩
theorem heldBook_nil (A : Option Addr) (c : Nat) (k : Int) (w : World) :
    Calls Try.prog 47 #[.slice A 0 c, .int .i64 k] w fun e w' => e = .returned (.int .i64 k) ∧ w = w' := by
  go_enter Try.func47, Try.ntmps47
  go_wp2
  go_loop [1, 5] (fun kk i => kk = .int .i64 k ∧ i = .int .i64 0) (fun _ _ => 0)
  case atStart => exact ⟨rfl, rfl⟩
  case round =>
    obtain ⟨rfl, rfl⟩ := hrel
    go_wp2
    go_ret
    exact ⟨rfl, rfl⟩
theorem markBook_own (v : Value) (M : List (Nat → Nat)) (base : Nat) (k : Int) (w : World) (hk : 0 ≤ k) (hk2 : k ≤ 1000) (hn : M.length ≤ 1000000) (h : OwnL eFr w base 27 v M) :
    Calls Try.prog 46 #[v, .int .i64 k] w fun e w' => e = .returned (.int .i64 (k + ((M.length * 12 : Nat) : Int))) ∧ w.grownBy w' v.ownBlock ∧ MarkedV w' v (u16At k) M.length (M.length * 12) := by
  rcases h.form with ⟨rfl, rfl⟩ | ⟨g, cap, R, rfl, hb, hg, h1, h2, hr⟩
  · refine (markBook_nil none 0 k w).mono ?_
    rintro e w' ⟨rfl, rfl⟩
    exact ⟨by simp, World.grownBy.refl w _, none, 0, rfl, .inl rfl⟩
  · refine (markBook_any g M.length cap k w _ hk (by omega) hn ⟨_, rfl, hr⟩ (by simp [Enc.cells_length, eFr_n])).mono ?_
    rintro e w' ⟨rfl, hm⟩
    exact ⟨rfl, hm.grown, some ⟨g, 0, none⟩, cap, rfl, .inr ⟨g, rfl, hm.row.lt, hm.cells⟩⟩
theorem heldBook_own (v : Value) (n : Nat) (k : Int) (w : World) (hk : 0 ≤ k) (hk2 : k ≤ 1000) (hn : n ≤ 1000000) (h : MarkedV w v (u16At k) n (n * 12)) :
    Calls Try.prog 47 #[v, .int .i64 k] w fun e w' => e = .returned (.int .i64 (k + ((n * 12 : Nat) : Int))) ∧ w = w' := by
  obtain ⟨A, c, rfl, rfl | ⟨g, rfl, _, hm⟩⟩ := h
  · refine (heldBook_nil A c k w).mono ?_
    rintro e w' ⟨rfl, rfl⟩
    exact ⟨by simp, rfl⟩
  · exact heldBook_any g n c k w hk hk2 hn hm
end Go.Proofs.Ytpmlepgnokbpaaa

/- The laws' own helpers over []int64: eqInt64S, markInt64S, heldInt64S. -/
namespace Go.Proofs.Ytpmlepgnokbpaaa
open Go.RowKit
set_option linter.unusedVariables false
theorem eq_of_getD {α : Type} {z : α} {L M : List α} (hl : L.length = M.length) (h : ∀ j, j < L.length → L.getD j z = M.getD j z) : L = M := by
  apply List.ext_getElem?
  intro i
  by_cases hi : i < L.length
  · have := h i hi
    simp only [List.getD_eq_getElem?_getD, List.getElem?_eq_getElem hi, List.getElem?_eq_getElem (show i < M.length by omega), Option.getD_some] at this
    rw [List.getElem?_eq_getElem hi, List.getElem?_eq_getElem (show i < M.length by omega), this]
  · rw [List.getElem?_eq_none (by omega), List.getElem?_eq_none (by omega)]
theorem getD_get {α : Type} {z : α} {L : List α} {i : Nat} (h : i < L.length) : L[i]? = some (L.getD i z) := by
  rw [List.getD_eq_getElem?_getD, List.getElem?_eq_getElem h]; rfl
/-- A cell of a list of numbers. -/
theorem int_cell {w : World} {k : IntKind} {b o : Nat} {L : List Int} (h : w.rangeAt b o ((eI k).cells L)) {i : Nat} (hi : i < L.length) : w.cell? ⟨b, o + i, none⟩ = some (.int k (L.getD i 0)) := by
  have := range_part h (getD_get (z := 0) hi) 0 _ rfl
  rwa [show (eI k).n = 1 from rfl, Nat.mul_one, Nat.add_zero] at this
theorem own_apart {u v : Value} {B : Nat} (h4 : ∀ k, u.ownBlock = some k → k < B) (h7 : ∀ k, v.ownBlock = some k → B ≤ k) : u.ownBlock = none ∨ u.ownBlock ≠ v.ownBlock := by
  cases hu : u.ownBlock with
  | none => exact .inl rfl
  | some k =>
    refine .inr fun e => ?_
    have := h4 k hu
    have := h7 k e.symm
    omega
end Go.Proofs.Ytpmlepgnokbpaaa
