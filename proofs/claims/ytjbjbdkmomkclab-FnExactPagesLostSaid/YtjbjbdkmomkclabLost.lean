/- LOST PAGES: PagesLost: spec and impl; spec: l00Has; slices.Contains of numbers. -/
import Derived.Test.YtjbjbdkmomkclabNeed
import Derived.Test.YtjbjbdkmomkclabLI64
namespace Go.Proofs.Ytjbjbdkmomkclab
set_option maxRecDepth 100000
open Go.RowKit
set_option linter.unusedVariables false
set_option linter.unusedSimpArgs false
def memB (l : List Int) (x : Int) : Bool := decide (x ∈ l)
theorem memB_iff {l : List Int} {x : Int} : memB l x = true ↔ x ∈ l := by simp [memB]
theorem memB_no {l : List Int} {x : Int} (h : ∀ j, j < l.length → l.getD j 0 ≠ x) : memB l x = false := by
  unfold memB
  refine decide_eq_false (fun e => ?_)
  obtain ⟨i, hi⟩ := List.getElem?_of_mem e
  have hl := (List.getElem?_eq_some_iff.1 hi).1
  refine h i hl ?_
  rw [List.getD_eq_getElem?_getD, hi]; rfl
theorem memB_yes {l : List Int} {x : Int} {j : Nat} (hj : j < l.length) (h : l.getD j 0 = x) : memB l x = true := by
  unfold memB
  refine decide_eq_true ?_
  rw [← h]
  exact List.mem_of_getElem? (getD_get hj)
set_option maxHeartbeats 400000 in
theorem hasI_any (v : Value) (l : List Int) (x : Int) (w : World) (h : SlAt (eI .i64) w w.heap.size v l) :
    Calls Try.prog 64 #[v, .int .i64 x] w fun e w' => e = .returned (.bool (memB l x)) ∧ w = w' := by
  obtain ⟨A, c, rfl, h1, h2, hA⟩ := h
  unfold maxLen at h2
  go_enter Try.func64, Try.ntmps64
  go_wp2
  go_loop [5] (fun i => ∃ k : Nat, k ≤ l.length ∧ i = .int .i64 k ∧ (∀ j, j < k → l.getD j 0 ≠ x)) (fun i => l.length - (intOf i).toNat)
  case atStart => exact ⟨0, by omega, rfl, by omega⟩
  case round =>
    obtain ⟨k, hk, rfl, he⟩ := hrel
    have HE := Lib.hid he
    clear he
    by_cases hlt : k < l.length
    · obtain ⟨b1, o1, rfl, hb1, r1⟩ := hA (by omega)
      have c1 := int_cell r1 hlt
      clear hA r1
      by_cases hx : l.getD k 0 = x
      · have HX := Lib.hid (memB_yes hlt hx)
        generalize l.getD k 0 = y at *
        have d : (y == x) = true := by simp [hx]
        clear hx
        go_wp2
        go_ret
        exact ⟨ret_bool HX.out.symm, rfl⟩
      · have HX := Lib.hid hx
        have d : (l.getD k 0 == x) = false := by simpa using hx
        clear hx
        generalize hy : l.getD k 0 = y at *
        have HY := Lib.hid hy
        clear hy
        go_wp2
        go_round
        case rel =>
          go_light
          refine ⟨k + 1, by omega, by go_num, ?_⟩
          intro j hj
          rcases Nat.lt_succ_iff_lt_or_eq.1 hj with h | rfl
          · exact HE.out j h
          · rw [HY.out]; exact HX.out
        case measure => simp [intOf]; omega
    · have hkl : k = l.length := by omega
      subst hkl
      have HN := Lib.hid (memB_no HE.out)
      clear hA
      go_wp2
      go_ret
      exact ⟨ret_bool HN.out.symm, rfl⟩
set_option maxHeartbeats 400000 in
theorem slIdx_any (v : Value) (l : List Int) (x : Int) (w : World) (h : SlAt (eI .i64) w w.heap.size v l) :
    Calls Try.prog 98 #[v, .int .i64 x] w fun e w' => ∃ j : Int, e = .returned (.int .i64 j) ∧ (memB l x = decide (0 ≤ j)) ∧ w = w' := by
  obtain ⟨A, c, rfl, h1, h2, hA⟩ := h
  unfold maxLen at h2
  go_enter Try.func98, Try.ntmps98
  go_wp2
  go_loop [8] (fun i => ∃ k : Nat, k ≤ l.length ∧ i = .int .i64 k ∧ (∀ j, j < k → l.getD j 0 ≠ x)) (fun i => l.length - (intOf i).toNat)
  case atStart => exact ⟨0, by omega, rfl, by omega⟩
  case round =>
    obtain ⟨k, hk, rfl, he⟩ := hrel
    have HE := Lib.hid he
    clear he
    by_cases hlt : k < l.length
    · obtain ⟨b1, o1, rfl, hb1, r1⟩ := hA (by omega)
      have c1 := int_cell r1 hlt
      clear hA r1
      by_cases hx : l.getD k 0 = x
      · have HX := Lib.hid (memB_yes hlt hx)
        generalize l.getD k 0 = y at *
        have d : (x == y) = true := by simp [hx]
        clear hx
        go_wp2
        go_ret
        exact ⟨_, rfl, by rw [HX.out]; simp, rfl⟩
      · have HX := Lib.hid hx
        have d : (x == l.getD k 0) = false := beq_eq_false_iff_ne.2 (fun e => hx e.symm)
        clear hx
        generalize hy : l.getD k 0 = y at *
        have HY := Lib.hid hy
        clear hy
        go_wp2
        go_round
        case rel =>
          go_light
          refine ⟨k + 1, by omega, by go_num, ?_⟩
          intro j hj
          rcases Nat.lt_succ_iff_lt_or_eq.1 hj with h | rfl
          · exact HE.out j h
          · rw [HY.out]; exact HX.out
        case measure => simp [intOf]; omega
    · have hkl : k = l.length := by omega
      subst hkl
      have HN := Lib.hid (memB_no HE.out)
      clear hA
      go_wp2
      go_ret
      exact ⟨_, rfl, by rw [HN.out]; simp, rfl⟩
theorem contains_any (v : Value) (l : List Int) (x : Int) (w : World) (h : SlAt (eI .i64) w w.heap.size v l) :
    Calls Try.prog 66 #[v, .int .i64 x] w fun e w' => e = .returned (.bool (memB l x)) ∧ w = w' := by
  have cI := slIdx_any v l x w h
  obtain ⟨A, c, rfl⟩ := h.form
  clear h
  go_enter Try.func66, Try.ntmps66
  go_wp2_with fail
  refine cI.mono ?_
  rintro e w' ⟨j, rfl, hj, rfl⟩
  have HJ := Lib.hid hj
  clear hj
  go_wp2
  go_ret
  exact ⟨ret_bool HJ.out.symm, rfl⟩
theorem chL_le {L : List Stp} (ho : okSts L = true) : ∀ p, p < L.length → ∀ x ∈ chL L p, 0 ≤ x ∧ x ≤ (p : Int) := by
  intro p
  induction p using Nat.strongRecOn with
  | _ p ih =>
    intro hp x hx
    by_cases h : (tAt L p).1.1 = 0
    · rw [chL_end h] at hx; simp at hx; omega
    · have hb := ok_page ho hp h
      rw [chL_step ho hp h] at hx
      rcases List.mem_cons.1 hx with rfl | hx
      · omega
      · have := ih _ (by omega) (by omega) x hx
        omega
theorem chL_self (L : List Stp) (p : Nat) : (p : Int) ∈ chL L p := by
  unfold chL
  cases p with
  | zero => simp [chN]
  | succ p => exact List.mem_cons_self ..
/-- The pages from p on, m of them, for which p is needed. -/
def lsL (L : List Stp) (p : Nat) : Nat → List Int
  | 0 => []
  | m + 1 => lsL L p m ++ (if memB (chL L (p + m)) (p : Int) then [((p + m : Nat) : Int)] else [])
theorem lsL_len (L : List Stp) (p : Nat) : ∀ m, (lsL L p m).length ≤ m
  | 0 => by simp [lsL]
  | m + 1 => by
    have := lsL_len L p m
    unfold lsL
    split <;> simp <;> omega
theorem lsL_mem {L : List Stp} {p : Nat} : ∀ {m : Nat} {x : Int}, x ∈ lsL L p m ↔ ∃ j, j < m ∧ x = ((p + j : Nat) : Int) ∧ memB (chL L (p + j)) (p : Int) = true
  | 0, x => by simp [lsL]
  | m + 1, x => by
    unfold lsL
    rw [List.mem_append, lsL_mem (m := m)]
    constructor
    · rintro (⟨j, hj, e, h⟩ | h)
      · exact ⟨j, by omega, e, h⟩
      · split at h
        · rename_i hm
          exact ⟨m, by omega, by simpa using h, hm⟩
        · cases h
    · rintro ⟨j, hj, e, h⟩
      rcases Nat.lt_succ_iff_lt_or_eq.1 hj with h' | rfl
      · exact .inl ⟨j, h', e, h⟩
      · exact .inr (by rw [if_pos h]; simp [e])
theorem lsL_yes {L : List Stp} {p m : Nat} (h : memB (chL L (p + m)) (p : Int) = true) : lsL L p (m + 1) = lsL L p m ++ [((p + m : Nat) : Int)] := by
  show lsL L p m ++ _ = _
  rw [if_pos h]
theorem lsL_no {L : List Stp} {p m : Nat} (h : memB (chL L (p + m)) (p : Int) = false) : lsL L p (m + 1) = lsL L p m := by
  show lsL L p m ++ _ = _
  rw [if_neg (by rw [h]; decide), List.append_nil]
theorem ls_end {L : List Stp} {p m : Nat} (hm : 1 ≤ m) (h : (tAt L (p + m)).1.1 = 0) : lsL L p (m + 1) = lsL L p m := by
  refine lsL_no ?_
  cases hc : memB (chL L (p + m)) (p : Int) with
  | false => rfl
  | true =>
    have := memB_iff.1 hc
    rw [chL_end h] at this
    simp at this
    omega
theorem ls_base {L : List Stp} (ho : okSts L = true) {p m : Nat} (hm : 1 ≤ m) (hp : p + m < L.length) (h : (tAt L (p + m)).1.1 ≠ 0) : memB (chL L (p + m)) (p : Int) = memB (lsL L p m) (tAt L (p + m)).1.2.1 := by
  have hb := ok_page ho hp h
  obtain ⟨Q, hQ⟩ := Int.eq_ofNat_of_zero_le hb.1
  have hst := chL_step ho hp h
  rw [hQ, Int.toNat_natCast] at hst
  rw [hQ] at hb ⊢
  rw [Bool.eq_iff_iff, memB_iff, memB_iff, hst, List.mem_cons, lsL_mem]
  constructor
  · rintro (e | e)
    · omega
    · have hle := chL_le ho Q (by omega) _ e
      refine ⟨Q - p, by omega, by omega, ?_⟩
      rw [memB_iff, show p + (Q - p) = Q by omega]
      exact e
  · rintro ⟨j, hj, e, hc⟩
    have : Q = p + j := by omega
    subst this
    exact .inr (memB_iff.1 hc)
def lostL (L : List Stp) (p : Int) : List Int := lsL L p.toNat (L.length - p.toNat)
theorem lo_if_len (L : List Stp) (p : Int) : (ifL (asZ L p) (lostL L p)).length ≤ 1000 := by
  rcases asZ_cases L p with ⟨_, hc⟩ | ⟨_, _, hc⟩ | ⟨ho, _, hc⟩
  · rw [hc, ifL1 _ (by decide)]; simp
  · rw [hc, ifL1 _ (by decide)]; simp
  · rw [hc, ifL0]
    have := lsL_len L p.toNat (L.length - p.toNat)
    have := (okSts_iff.1 ho).1
    unfold lostL
    omega
end Go.Proofs.Ytjbjbdkmomkclab
