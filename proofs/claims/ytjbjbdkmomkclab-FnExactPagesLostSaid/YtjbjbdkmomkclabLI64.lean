/- The laws' own helpers over []int64: eqInt64S, markInt64S, heldInt64S. -/
import Derived.Test.YtjbjbdkmomkclabRows
import Derived.Test.YtjbjbdkmomkclabL1
import Derived.Test.YtjbjbdkmomkclabMem
namespace Go.Proofs.Ytjbjbdkmomkclab
set_option maxRecDepth 100000
open Go.RowKit
set_option linter.unusedVariables false
theorem eq_of_getD {α : Type} {z : α} {L M : List α} (hl : L.length = M.length) (h : ∀ j, j < L.length → L.getD j z = M.getD j z) : L = M := by
  apply List.ext_getElem?
  intro i
  by_cases hi : i < L.length
  · have := h i hi
    simp only [List.getD_eq_getElem?_getD, List.getElem?_eq_getElem hi, List.getElem?_eq_getElem (show i < M.length by omega), Option.getD_some] at this
    rw [List.getElem?_eq_getElem hi, List.getElem?_eq_getElem (show i < M.length by omega), this]
  · rw [List.getElem?_eq_none (by omega), List.getElem?_eq_none (by omega)]
theorem getD_get {α : Type} {z : α} {L : List α} {i : Nat} (h : i < L.length) : L[i]? = some (L.getD i z) := by
  rw [List.getD_eq_getElem?_getD, List.getElem?_eq_getElem h]; rfl
/-- A cell of a list of numbers. -/
theorem int_cell {w : World} {k : IntKind} {b o : Nat} {L : List Int} (h : w.rangeAt b o ((eI k).cells L)) {i : Nat} (hi : i < L.length) : w.cell? ⟨b, o + i, none⟩ = some (.int k (L.getD i 0)) := by
  have := range_part h (getD_get (z := 0) hi) 0 _ rfl
  rwa [show (eI k).n = 1 from rfl, Nat.mul_one, Nat.add_zero] at this
set_option maxHeartbeats 400000 in
theorem eqInt64S_any (u v : Value) (L M : List Int) (w : World) (hu : SlAt (eI .i64) w w.heap.size u L) (hv : SlAt (eI .i64) w w.heap.size v M) :
    Calls Try.prog 23 #[u, v] w fun e w' => e = .returned (.bool (decide (L = M))) ∧ Below w.heap.size w w' := by
  obtain ⟨A, c, rfl, h1, h2, hA⟩ := hu
  obtain ⟨B, d, rfl, h3, h4, hB⟩ := hv
  unfold maxLen at h2 h4
  by_cases hl : L.length = M.length
  · have e1 : ((L.length : Int) != (M.length : Int)) = false := by simp [hl]
    have HL := Lib.hid hl
    clear hl
    go_enter Try.func23, Try.ntmps23
    go_wp2
    go_loopw [5] (fun i wr => ∃ k : Nat, k ≤ L.length ∧ i = .int .i64 k ∧ (∀ j, j < k → L.getD j 0 = M.getD j 0) ∧ Below w.heap.size w wr) (fun i _ => L.length - (intOf i).toNat)
    case atStart => exact ⟨0, by omega, rfl, by omega, Below.refl _ _⟩
    case round =>
      obtain ⟨k, hk, rfl, he, hb⟩ := hrel
      have HE := Lib.hid he
      clear he
      by_cases hlt : k < L.length
      · have hltM : k < M.length := by rw [← HL.out]; exact hlt
        obtain ⟨b1, o1, rfl, hb1, r1⟩ := hA (by omega)
        obtain ⟨b2, o2, rfl, hb2, r2⟩ := hB (by omega)
        have c1 := int_cell (range_below r1 hb hb1) hlt
        have c2 := int_cell (range_below r2 hb hb2) hltM
        clear hA hB r1 r2
        generalize hx : L.getD k 0 = x at *
        generalize hy : M.getD k 0 = y at *
        by_cases hxy : x = y
        · have hd : (x != y) = false := by simp [hxy]
          have HF := Lib.hid (show L.getD k 0 = M.getD k 0 by rw [hx, hy, hxy])
          clear hxy hx hy
          go_wp2
          go_quiet (fail)
          go_wp2
          go_roundw
          case rel =>
            go_light
            refine ⟨k + 1, by omega, by go_num, ?_, below_drewN hb _⟩
            intro j hj
            rcases Nat.lt_succ_iff_lt_or_eq.1 hj with h | rfl
            · exact HE.out j h
            · exact HF.out
          case measure => simp [intOf]; omega
        · have hd : (x != y) = true := by simp [hxy]
          have HF := Lib.hid (show L ≠ M from fun e => hxy (by rw [← hx, ← hy, e]))
          clear hxy hx hy
          go_wp2
          go_quiet (fail)
          go_wp2
          go_ret
          exact ⟨ret_bool (by rw [decide_eq_false HF.out]), below_drewN hb _⟩
      · go_wp2
        go_ret
        have hkl : k = L.length := by omega
        subst hkl
        exact ⟨ret_bool (by rw [decide_eq_true (eq_of_getD HL.out HE.out)]), hb⟩
  · have e1 : ((L.length : Int) != (M.length : Int)) = true := by simp; omega
    have HL := Lib.hid (show L ≠ M from fun e => hl (by rw [e]))
    clear hl
    go_enter Try.func23, Try.ntmps23
    go_wp2
    go_ret
    exact ⟨ret_bool (by rw [decide_eq_false HL.out]), Below.refl _ _⟩
theorem eqInt64S_same (u v : Value) (L : List Int) (w : World) (hu : SlAt (eI .i64) w w.heap.size u L) (hv : SlAt (eI .i64) w w.heap.size v L) :
    Calls Try.prog 23 #[u, v] w fun e w' => e = .returned (.bool true) ∧ Below w.heap.size w w' := by
  have := eqInt64S_any u v L L w hu hv
  rw [decide_eq_true rfl] at this
  exact this
theorem own_apart {u v : Value} {B : Nat} (h4 : ∀ k, u.ownBlock = some k → k < B) (h7 : ∀ k, v.ownBlock = some k → B ≤ k) : u.ownBlock = none ∨ u.ownBlock ≠ v.ownBlock := by
  cases hu : u.ownBlock with
  | none => exact .inl rfl
  | some k =>
    refine .inr fun e => ?_
    have := h4 k hu
    have := h7 k e.symm
    omega
set_option maxHeartbeats 400000 in
theorem markInt64S_any (g n c : Nat) (k : Int) (w : World) (N : Nat) (hk : 0 ≤ k) (hk2 : k ≤ 1000) (hn : n ≤ 1000000000) (hr : RowN w g 2 N) (hN : n ≤ N) :
    Calls Try.prog 25 #[.slice (some ⟨g, 0, none⟩) n c, .int .i64 k] w fun e w' => e = .returned (.int .i64 (k + (n : Int))) ∧ Marks w w' g 2 N (i64At k) n := by
  have hm := Marks.start hr (i64At k)
  clear hr
  go_enter Try.func25, Try.ntmps25
  go_wp2
  go_loopw [1, 5] (fun kk i wr => ∃ p : Nat, p ≤ n ∧ i = .int .i64 p ∧ kk = .int .i64 (k + (p : Int)) ∧ Marks w wr g 2 N (i64At k) p) (fun _ i _ => n - (intOf i).toNat)
  case atStart => exact ⟨0, by omega, rfl, by simp, by simpa using hm⟩
  case round =>
    clear hm
    obtain ⟨p, hp, rfl, rfl, hm⟩ := hrel
    by_cases hlt : p < n
    · obtain ⟨u0, c0⟩ := hm.row.cell (q := p) (by omega)
      have f0 := hm.row.free p
      go_wp2
      go_roundw
      case rel =>
        go_light
        exact ⟨p + 1, by omega, by go_num, by go_num, hm.step (by omega) (by rfl)⟩
      case measure => simp [intOf]; omega
    · have hpn : p = n := by omega
      subst hpn
      go_wp2
      go_ret
      exact ⟨rfl, hm⟩
set_option maxHeartbeats 400000 in
theorem heldInt64S_any (g n c : Nat) (k : Int) (w : World) (hk : 0 ≤ k) (hk2 : k ≤ 1000) (hn : n ≤ 1000000000) (hm : Marked w g (i64At k) n) :
    Calls Try.prog 26 #[.slice (some ⟨g, 0, none⟩) n c, .int .i64 k] w fun e w' => e = .returned (.int .i64 (k + (n : Int))) ∧ w = w' := by
  go_enter Try.func26, Try.ntmps26
  go_wp2
  go_loop [1, 5] (fun kk i => ∃ p : Nat, p ≤ n ∧ i = .int .i64 p ∧ kk = .int .i64 (k + (p : Int))) (fun _ i => n - (intOf i).toNat)
  case atStart => exact ⟨0, by omega, rfl, by simp⟩
  case round =>
    obtain ⟨p, hp, rfl, rfl⟩ := hrel
    by_cases hlt : p < n
    · have c0 := hm p hlt
      unfold i64At at c0
      have e0 : ((k + (p : Int)) != (k + (p : Int))) = false := by simp
      go_wp2
      go_round
      case rel =>
        go_light
        exact ⟨p + 1, by omega, by go_num, by go_num⟩
      case measure => simp [intOf]; omega
    · have hpn : p = n := by omega
      subst hpn
      go_wp2
      go_ret
      exact ⟨rfl, rfl⟩
/-- An empty list, whatever its address: nothing is marked, or held. -/
theorem markInt64S_nil (A : Option Addr) (c : Nat) (k : Int) (w : World) :
    Calls Try.prog 25 #[.slice A 0 c, .int .i64 k] w fun e w' => e = .returned (.int .i64 k) ∧ w = w' := by
  go_enter Try.func25, Try.ntmps25
  go_wp2
  go_loop [1, 5] (fun kk i => kk = .int .i64 k ∧ i = .int .i64 0) (fun _ _ => 0)
  case atStart => exact ⟨rfl, rfl⟩
  case round =>
    obtain ⟨rfl, rfl⟩ := hrel
    go_wp2
    go_ret
    exact ⟨rfl, rfl⟩
theorem heldInt64S_nil (A : Option Addr) (c : Nat) (k : Int) (w : World) :
    Calls Try.prog 26 #[.slice A 0 c, .int .i64 k] w fun e w' => e = .returned (.int .i64 k) ∧ w = w' := by
  go_enter Try.func26, Try.ntmps26
  go_wp2
  go_loop [1, 5] (fun kk i => kk = .int .i64 k ∧ i = .int .i64 0) (fun _ _ => 0)
  case atStart => exact ⟨rfl, rfl⟩
  case round =>
    obtain ⟨rfl, rfl⟩ := hrel
    go_wp2
    go_ret
    exact ⟨rfl, rfl⟩
theorem markInt64S_own (v : Value) (M : List Int) (base : Nat) (k : Int) (w : World) (hk : 0 ≤ k) (hk2 : k ≤ 1000) (hn : M.length ≤ 1000000000) (h : OwnL (eI .i64) w base 2 v M) :
    Calls Try.prog 25 #[v, .int .i64 k] w fun e w' => e = .returned (.int .i64 (k + (M.length : Int))) ∧ w.grownBy w' v.ownBlock ∧ MarkedV w' v (i64At k) M.length M.length := by
  rcases h.form with ⟨rfl, rfl⟩ | ⟨g, cap, R, rfl, hb, hg, h1, h2, hr⟩
  · refine (markInt64S_nil none 0 k w).mono ?_
    rintro e w' ⟨rfl, rfl⟩
    exact ⟨by simp, World.grownBy.refl w _, none, 0, rfl, .inl rfl⟩
  · refine (markInt64S_any g M.length cap k w _ hk hk2 hn ⟨_, rfl, hr⟩ (by simp [Enc.cells_length, show (eI .i64).n = 1 from rfl])).mono ?_
    rintro e w' ⟨rfl, hm⟩
    exact ⟨rfl, hm.grown, some ⟨g, 0, none⟩, cap, rfl, .inr ⟨g, rfl, hm.row.lt, hm.cells⟩⟩
theorem heldInt64S_own (v : Value) (n : Nat) (k : Int) (w : World) (hk : 0 ≤ k) (hk2 : k ≤ 1000) (hn : n ≤ 1000000000) (h : MarkedV w v (i64At k) n n) :
    Calls Try.prog 26 #[v, .int .i64 k] w fun e w' => e = .returned (.int .i64 (k + (n : Int))) ∧ w = w' := by
  obtain ⟨A, c, rfl, rfl | ⟨g, rfl, _, hm⟩⟩ := h
  · refine (heldInt64S_nil A c k w).mono ?_
    rintro e w' ⟨rfl, rfl⟩
    exact ⟨by simp, rfl⟩
  · exact heldInt64S_any g n c k w hk hk2 hn hm
end Go.Proofs.Ytjbjbdkmomkclab
