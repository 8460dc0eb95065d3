/- A PAGE OF A BOOK, asked for: spec's l04Page; impl's hasPage, checkPage. An element is stored into a row of the call's own. -/
import Derived.Test.YtjbjbdkmomkclaaSJumps
import Derived.Test.YtjbjbdkmomkclaaIBook
namespace Go.Proofs.Ytjbjbdkmomkclaa
set_option maxRecDepth 100000
open Go.RowKit
set_option linter.unusedVariables false
set_option linter.unusedSimpArgs false
def hpB (L : List (Nat → Nat)) (p : Int) : Bool := decide (0 ≤ p ∧ p < L.length)
theorem hpB_iff {L : List (Nat → Nat)} {p : Int} : hpB L p = true ↔ 0 ≤ p ∧ p < L.length := by simp [hpB]
theorem hpB_false {L : List (Nat → Nat)} {p : Int} : hpB L p = false ↔ p < 0 ∨ (L.length : Int) ≤ p := by
  unfold hpB; rw [decide_eq_false_iff_not]; omega
theorem hpB_in (L : List (Nat → Nat)) (p : Int) : inB p 0 ((L.length : Int) - 1) = hpB L p := by
  unfold inB hpB; congr 1; apply propext; omega
/-- The code of a book and a page. -/
def pgC (L : List (Nat → Nat)) (p : Int) : Int := if okB L then (if hpB L p then 0 else 2) else 1
theorem pgC_cases (L : List (Nat → Nat)) (p : Int) : (okB L = false ∧ pgC L p = 1) ∨ (okB L = true ∧ hpB L p = false ∧ pgC L p = 2) ∨ (okB L = true ∧ hpB L p = true ∧ pgC L p = 0) := by
  unfold pgC; cases okB L <;> cases hpB L p <;> simp
theorem hasPage_any (A : Option Addr) (c : Nat) (L : List (Nat → Nat)) (p : Int) (w : World) :
    Calls Try.prog 89 #[.slice A L.length c, .int .i64 p] w fun e w' => e = .returned (.bool (hpB L p)) ∧ w = w' := by
  unfold hpB
  by_cases h1 : 0 ≤ p
  · by_cases h2 : p < L.length
    · rw [decide_eq_true (show 0 ≤ p ∧ p < L.length from ⟨h1, h2⟩)]
      go_enter Try.func89, Try.ntmps89
      go_wp2
      go_ret
      exact ⟨rfl, rfl⟩
    · rw [decide_eq_false (show ¬ (0 ≤ p ∧ p < L.length) by omega)]
      have h3 : decide (p < (L.length : Int)) = false := decide_eq_false h2
      go_enter Try.func89, Try.ntmps89
      go_wp2
      go_ret
      exact ⟨rfl, rfl⟩
  · rw [decide_eq_false (show ¬ (0 ≤ p ∧ p < L.length) by omega)]
    go_enter Try.func89, Try.ntmps89
    go_wp2
    go_ret
    exact ⟨rfl, rfl⟩
theorem checkPage_any (v : Value) (L : List (Nat → Nat)) (p : Int) (w : World) (hL : ltL L) (h : SlAt eFr w w.heap.size v L) :
    Calls Try.prog 64 #[v, .int .i64 p] w fun e w' => e = .returned (.int .i64 (pgC L p)) ∧ Below w.heap.size w w' := by
  have cV := implValidBook_any v L w hL h
  obtain ⟨A, c, rfl⟩ := h.form
  have cH := fun w => hasPage_any A c L p w
  clear h
  rcases pgC_cases L p with ⟨ho, hc⟩ | ⟨ho, hi, hc⟩ | ⟨ho, hi, hc⟩
  · rw [ho] at cV
    rw [hc]
    clear ho hc cH
    go_enter Try.func64, Try.ntmps64
    go_wp2_with (go_at_call 59; refine cV.mono ?_; rintro e w1 ⟨rfl, hb1⟩)
    go_ret
    exact ⟨rfl, hb1⟩
  all_goals
    rw [ho] at cV
    rw [hi] at cH
    rw [hc]
    clear ho hc hi
    go_enter Try.func64, Try.ntmps64
    go_wp2_with (first | (go_at_call 59; refine cV.mono ?_; rintro e w1 ⟨rfl, hb1⟩) | (go_at_call 89; refine (cH _).mono ?_; rintro e w' ⟨rfl, rfl⟩))
    go_ret
    exact ⟨rfl, hb1⟩
section
variable {α : Type} {E : Enc α}
theorem OwnL.row {w : World} {base : Nat} {t : TypeId} {g cap n : Nat} {L : List α} (h : OwnL E w base t (.slice (some ⟨g, 0, none⟩) n cap) L) : ∃ R, Row w g t (E.cells L ++ R).toArray ∧ n = L.length ∧ L.length ≤ cap ∧ cap ≤ maxLen ∧ base ≤ g ∧ g < w.heap.size := by
  rcases h.form with ⟨h, _⟩ | ⟨g', cap', R, hv, hb, hg, hc, hm, hr⟩
  · cases h
  · injection hv with h1 h2 h3
    injection h1 with h1
    injection h1 with h1
    subst h1
    subst h3
    exact ⟨R, hr, h2, hc, hm, hb, hg⟩
theorem row_there {w : World} {t : TypeId} {g : Nat} {L : List α} {R : List Value} (h : Row w g t (E.cells L ++ R).toArray) {i : Nat} (hi : i < L.length) : w.there g (i * E.n) E.n := fun j hj => by
  refine ⟨?_, Row.free h _⟩
  rw [Row.cell h]
  have : i * E.n + j < (E.cells L).length := by
    rw [Enc.cells_length]
    have e : (i + 1) * E.n ≤ L.length * E.n := Nat.mul_le_mul_right _ hi
    rw [Nat.succ_mul] at e
    omega
  simp only [List.getElem?_toArray]
  rw [List.getElem?_append_left this]
  simp [this]
theorem OwnL.storeE {w : World} {base : Nat} {t : TypeId} {g cap n : Nat} {L : List α} (h : OwnL E w base t (.slice (some ⟨g, 0, none⟩) n cap) L) {i : Nat} (hi : i < L.length) (x : α) :
    OwnL E (w.setCells g (i * E.n) (E.c x)) base t (.slice (some ⟨g, 0, none⟩) n cap) (L.set i x) := by
  obtain ⟨hl, ⟨hv, h0⟩ | ⟨g', cap', cur, hv, hb, hh, h1, h2, h3, h4⟩⟩ := h
  · cases hv
  · injection hv with e1 e2 e3
    injection e1 with e1
    injection e1 with e1
    subst e1
    subst e3
    have e : (i + 1) * E.n ≤ L.length * E.n := Nat.mul_le_mul_right _ hi
    rw [Nat.succ_mul] at e
    have hlen : L.length * E.n ≤ cur.size := by rw [← Array.length_toList]; have := congrArg List.length h4; rw [List.length_take, Enc.cells_length] at this; omega
    have hr := Row.setCells (E.c x) (i * E.n) cur w hh (by rw [E.len]; omega)
    rw [E.len] at hr
    refine ⟨by rw [Enc.cells_length], .inr ⟨g, cap, _, by rw [List.length_set, ← e2], hb, hr, by rw [List.length_set]; exact h1, h2, ?_, ?_⟩⟩
    · rw [← h3]
      simp only [List.size_toArray, List.length_append, List.length_take, List.length_drop, Array.length_toList, E.len]
      omega
    · rw [List.length_set, Enc.cells_set L x hi]
      have hc : cur.toList = E.cells L ++ cur.toList.drop (L.length * E.n) := by rw [← h4, List.take_append_drop]
      have hcl : (E.cells L).length = L.length * E.n := Enc.cells_length L
      generalize cur.toList.drop (L.length * E.n) = R at hc
      simp only [List.toList_toArray]
      rw [hc, show (E.cells L ++ R).take (i * E.n) = (E.cells L).take (i * E.n) from List.take_append_of_le_length (by rw [hcl]; omega), show (E.cells L ++ R).drop (i * E.n + E.n) = (E.cells L).drop (i * E.n + E.n) ++ R from List.drop_append_of_le_length (by rw [hcl]; omega), ← List.append_assoc]
      rw [List.take_left' ?_]
      simp only [List.length_append, List.length_take, List.length_drop, hcl, E.len]
      omega
end
section
variable {P : Program} {ops : Array Oper} {rest : List Oper} {o : Oper} {a : Act} {w : World} {Q : Exit → Act → World → Prop} {α : Type} {E : Enc α} {g : Nat} {t : TypeId} {L : List α}
/-- An element of many cells is stored into a row of the call's own. -/
theorem wpList_store_own (hgd : o.guard = none) (ty : TypeId) (x y : Operand) (ho : o.op = .store ty x y) {base cap n : Nat} (h : OwnL E w base t (.slice (some ⟨g, 0, none⟩) n cap) L) {i off : Nat} (hi : i < L.length) (hoff : off = i * E.n) (hx : a.eval x = .pointer (some ⟨g, off, none⟩)) (e : α)
    {cs : Array Value} (hy : a.eval y = .agg cs) (hcs : cs.toList = E.c e) (hinf : (P.info? ty).map (·.size) = some E.n)
    (hk : OwnL E (w.setCells g (i * E.n) (E.c e)) base t (.slice (some ⟨g, 0, none⟩) n cap) (L.set i e) → Wrote g w (w.setCells g (i * E.n) (E.c e)) → wpList P ops Q rest (a.put o.dst undef) (w.setCells g (i * E.n) (E.c e))) : wpList P ops Q (o :: rest) a w := by
  subst hoff
  have hsz : cs.size = E.n := by rw [← Array.length_toList, hcs, E.len]
  obtain ⟨R, hr, _⟩ := h.row
  refine wpList_store_mid hgd ty x y ho g (i * E.n) cs hx hy (by rw [hsz]; exact row_there hr hi) (by rw [hsz]; exact hinf) (Array.all_eq_true_iff_forall_mem.2 fun v hv => E.one e v (by rw [← hcs]; exact Array.mem_toList_iff.2 hv)) ?_
  rw [hcs]
  exact hk (h.storeE hi e) (Wrote.setCells _ _ _ (Wrote.refl g w))
end
end Go.Proofs.Ytjbjbdkmomkclaa
