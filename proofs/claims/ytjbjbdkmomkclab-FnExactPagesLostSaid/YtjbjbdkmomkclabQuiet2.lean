/- A region that draws its order: first some plain moves of slots, whose values any operation may come between, then operations that only read and calls that only make memory (in whatever order), then a tail in one forced order. One walk of the text's order serves every order. No function of the program is named. -/
import Derived.Test.YtjbjbdkmomkclabQuiet
import Derived.OrdersHeld
namespace Go.Proofs.Ytjbjbdkmomkclab
section
variable {P : Program} {ops : Array Oper} {md : Region.Mode} {C : World → Prop}
def sinkFrom (md : Region.Mode) (ops : Array Oper) (p n : Nat) : Bool := (List.range n).all fun i => decide (i < p) || (List.range (n + 1)).any fun j => decide (i < j) && Region.waitsFor md ops j i
theorem tail_waitsP {p n : Nat} {listed : Array Bool} (hs : sinkFrom md ops p n = true) (hc : Region.chainB md ops n = true) (hn : n < ops.size) (inv : HeadInv md ops n listed) (hp : ∀ i, i < p → listed.getD i true = true) :
    ∀ (d i : Nat), n - i = d → i < n → listed.getD i true = false → ∀ t, n ≤ t → t ∉ Region.ready md ops listed := by
  intro d
  induction d using Nat.strongRecOn with
  | _ d ih =>
    intro i hd hi hun t ht hr
    obtain ⟨_, ot, hot, hall⟩ := mem_ready.1 hr
    have htlt : t < ops.size := (Array.getElem?_eq_some_iff.1 hot).1
    have hip : ¬ i < p := fun h => by rw [hp i h] at hun; cases hun
    by_cases htn : t = n
    · subst htn
      have h1 := List.all_eq_true.1 hs i (List.mem_range.2 hi)
      rw [decide_eq_false hip, Bool.false_or] at h1
      obtain ⟨j, hj, hj2⟩ := List.any_eq_true.1 h1
      simp only [Bool.and_eq_true, decide_eq_true_eq] at hj2
      obtain ⟨oj, hoj, e, he, hb, hon⟩ := Region.waitsFor_spec hj2.2
      have hjle : j ≤ t := by have := List.mem_range.1 hj; omega
      by_cases hjt : j = t
      · subst hjt
        have : oj = ot := Option.some.inj (hoj.symm.trans hot)
        subst this
        have h2 := hall e he hb
        rw [hon, getD_both hun] at h2
        cases h2
      · cases hl : listed.getD j false with
        | true =>
          have h2 := inv.closed j oj hoj hl e he hb
          rw [hon, getD_both hun] at h2
          cases h2
        | false =>
          have hjs : j < listed.size := by rw [inv.size]; omega
          exact ih (t - j) (by omega) j rfl (by omega) (getD_in hjs hl) t (Nat.le_refl _) hr
    · have h1 := List.all_eq_true.1 hc t (List.mem_range.2 htlt)
      simp only [Bool.or_eq_true, decide_eq_true_eq] at h1
      rcases h1 with h1 | h1
      · omega
      · obtain ⟨o', ho', e, he, hb, hon⟩ := Region.waitsFor_spec h1
        have : o' = ot := Option.some.inj (ho'.symm.trans hot)
        subst this
        have h2 := hall e he hb
        rw [hon, getD_both (inv.tail (t - 1) (by omega) (by omega))] at h2
        cases h2
theorem getD_set_up {listed : Array Bool} {i j : Nat} (h : listed.getD j true = true) : (listed.setIfInBounds i true).getD j true = true := by
  by_cases hij : i = j
  · subst hij
    rcases Nat.lt_or_ge i listed.size with hlt | hge
    · simp [hlt]
    · simp [Nat.not_lt.2 hge]
  · rw [getD_set_ne true hij]; exact h
theorem headQ_firstP {p n i : Nat} {oi : Oper} {v : Value} {L : Array Bool → Act → Prop} (hi : ops[i]? = some oi) (hsel : ∀ (j : Nat) (o : Oper) cs b, ops[j]? = some o → o.op ≠ .select cs b)
    (hs : sinkFrom md ops p n = true) (hc : Region.chainB md ops n = true) (hn : n < ops.size) (hin : i < n) (hdone : ∀ listed a, L listed a → ∀ j ∈ Region.ready md ops listed, n ≤ j) :
    ∀ (f : Nat) (listed : Array Bool) (a : Act), HeadInv md ops n listed → (∀ i, i < p → listed.getD i true = true) →
      (∀ j oj, ops[j]? = some oj → j ≠ i → listed.getD j true = false → (∀ e ∈ oj.after, Region.binds md e = true → e.on ≠ i) → oi.apart ops oj = true) →
      i ∈ Region.ready md ops listed → YieldsIn P ops C oi v a →
      HeadQ P md ops C n L f (listed.setIfInBounds i true) (a.put oi.dst v) → HeadQ P md ops C n L (f + 1) listed a := by
  intro f
  induction f with
  | zero =>
    intro listed a inv hp _ hr hy H
    have hun := (mem_ready.1 hr).1
    refine ⟨fun h => (by rw [h] at hr; cases hr), fun j hj => ?_⟩
    have hjn : j < n := by
      rcases Nat.lt_or_ge j n with h | h
      · exact h
      · exact absurd hj (tail_waitsP hs hc hn inv hp _ i rfl hin hun j h)
    refine ⟨hjn, ?_⟩
    by_cases hji : j = i
    · subst hji; exact hy.qOp hi H
    · have := hdone _ _ H j (ready_mono hj hji)
      omega
  | succ f ih =>
    intro listed a inv hp hfree hr hy H
    have hun := (mem_ready.1 hr).1
    refine ⟨fun h => (by rw [h] at hr; cases hr), fun j hj => ?_⟩
    have hjn : j < n := by
      rcases Nat.lt_or_ge j n with h | h
      · exact h
      · exact absurd hj (tail_waitsP hs hc hn inv hp _ i rfl hin hun j h)
    refine ⟨hjn, ?_⟩
    by_cases hji : j = i
    · subst hji; exact hy.qOp hi H
    · have h1 := (H.2 j (ready_mono hj hji)).2
      obtain ⟨hjun, oj, hoj, hall⟩ := mem_ready.1 hj
      have hnot : ∀ e ∈ oj.after, Region.binds md e = true → e.on ≠ i := fun e he hb heq => by
        have h1 := hall e he hb
        rw [heq, getD_both hun] at h1
        cases h1
      have h2 := qOp_put hoj (hfree j oj hoj hji hjun hnot) (fun cs b => hsel i oi cs b hi) (fun cs b => hsel j oj cs b hoj) hy h1
      have hfree' : ∀ k ok, ops[k]? = some ok → k ≠ i → (listed.setIfInBounds j true).getD k true = false →
          (∀ e ∈ ok.after, Region.binds md e = true → e.on ≠ i) → oi.apart ops ok = true := fun k ok hk hki hun hno => by
        refine hfree k ok hk hki ?_ hno
        by_cases hjk : j = k
        · subst hjk; exact hjun
        · rw [getD_set_ne true hjk] at hun; exact hun
      refine qOp_mono (fun a' h3 => ih (listed.setIfInBounds j true) a' (inv.set hj hjn) (fun i hi => getD_set_up (hp i hi)) hfree' (ready_mono hr (Ne.symm hji)) h3.1 ?_) h2
      rw [Array.setIfInBounds_comm _ _ hji]
      exact h3.2
theorem headQ_lexP {p n g : Nat} {Lq : Act → Prop} (hsel : Region.noSelect ops = true) (hs : sinkFrom md ops p n = true) (hc : Region.chainB md ops n = true) (hn : n < ops.size) :
    ∀ (l : List Oper) (k : Nat) (listed : Array Bool) (a : Act), (∀ j, j < l.length → l[j]? = ops[k + j]?) → k + l.length = n → HeadInv md ops n listed → (∀ i, i < p → listed.getD i true = true) →
    Region.lexHead md ops g l.length k listed = true → wpQuiet P ops C Lq l a →
    HeadQ P md ops C n (fun listed' a' => Region.seqB md ops g n listed' = true ∧ Lq a') l.length listed a
  | [], k, listed, a, _, hk, _, _, hB, h => by
    have : k = n := by simpa using hk
    subst this
    exact ⟨by simpa [Region.lexHead] using hB, h⟩
  | o :: l, k, listed, a, hl, hk, inv, hp, hB, h => by
    have h0 : ops[k]? = some o := by simpa using (hl 0 (by simp)).symm
    simp only [List.length_cons, Region.lexHead, Bool.and_eq_true] at hB
    obtain ⟨⟨hr, hf⟩, hB'⟩ := hB
    have hkn : k < n := by simp only [List.length_cons] at hk; omega
    have hr' : k ∈ Region.ready md ops listed := by simpa using hr
    have hst : qOp P ops C k (wpQuiet P ops C Lq l) a := by unfold qOp; simp only [h0]; exact h
    obtain ⟨v, hy, hK⟩ := yieldsIn_of_qOp h0 hst
    exact headQ_firstP h0 (Region.noSelect_spec hsel) hs hc hn hkn (fun listed' a' hL => seqB_ready hL.1) l.length listed a inv hp (Region.free_spec h0 hf) hr' hy
      (headQ_lexP hsel hs hc hn l (k + 1) _ _ (fun j hj => by have := hl (j + 1) (by simp; omega); simpa [Nat.add_assoc, Nat.add_comm 1 j] using this) (by simp only [List.length_cons] at hk; omega) (inv.set hr' hkn) (fun i hi => getD_set_up (hp i hi)) hB' hK)
theorem held_of_any {Q : Exit → Act → World → Prop} : ∀ (fuel : Nat) (listed : Array Bool) (a : Act) (w : World), wpAny P md ops Q fuel listed a w → wpAnyH P md ops Q (fun _ => True) fuel listed a w
  | 0, _, _, _, h => h
  | fuel + 1, _, _, _, h => ⟨h.1, fun i hi => wpOp_mono (fun a' w' h' => ⟨trivial, held_of_any fuel _ a' w' h'⟩) (h.2 i hi)⟩
/-- The operand of a plain move. -/
def moveOf (o : Oper) : Option Operand := if o.guard.isNone then (match o.op with | .move x => some x | _ => none) else none
def runMoves : List Oper → Act → Act
  | [], a => a
  | o :: l, a => runMoves l (match moveOf o with | some x => a.put o.dst (a.eval x) | none => a)
theorem yields_move {o : Oper} {a : Act} {x : Operand} (h : moveOf o = some x) : YieldsIf P ops (fun _ => True) o (a.eval x) a := by
  unfold moveOf at h
  split at h
  · rename_i hg
    split at h
    · rename_i y ho
      cases h
      exact .inl ⟨by simp [Region.wanted, Option.isNone_iff_eq_none.1 hg], fun w _ => by unfold execOp; simp only [ho, Sem.run_pure]⟩
    · cases h
  · cases h
theorem pre_moves {n g m : Nat} {Q : Exit → Act → World → Prop} (hsel : Region.noSelect ops = true) (hQ : ∀ c a w, ¬ Q (.panic c) a w) :
    ∀ (pre : List Oper) (f k : Nat) (listed : Array Bool) (a : Act) (w : World), (∀ j, j < pre.length → pre[j]? = ops[k + j]?) → (∀ o ∈ pre, (moveOf o).isSome = true) → k + pre.length ≤ n → HeadInv md ops n listed → (∀ i, i < k → listed.getD i true = true) →
    Region.lexHead md ops g (pre.length + f) k listed = true →
    (∀ listed', HeadInv md ops n listed' → (∀ i, i < k + pre.length → listed'.getD i true = true) → Region.lexHead md ops g f (k + pre.length) listed' = true → wpAnyH P md ops Q (fun _ => True) (f + m) listed' (runMoves pre a) w) →
    wpAnyH P md ops Q (fun _ => True) (pre.length + f + m) listed a w
  | [], f, k, listed, a, w, _, _, _, inv, hp, hB, h => by
    simp only [List.length_nil, Nat.zero_add, Nat.add_zero] at h hB ⊢
    exact h listed inv hp hB
  | o :: pre, f, k, listed, a, w, hl, hmv, hk, inv, hp, hB, h => by
    have h0 : ops[k]? = some o := by simpa using (hl 0 (by simp)).symm
    rw [List.length_cons, show pre.length + 1 + f = (pre.length + f) + 1 by omega] at hB
    simp only [Region.lexHead, Bool.and_eq_true] at hB
    obtain ⟨⟨hr, hf⟩, hB'⟩ := hB
    have hkn : k < n := by simp only [List.length_cons] at hk; omega
    have hr' : k ∈ Region.ready md ops listed := by simpa using hr
    obtain ⟨x, hx⟩ := Option.isSome_iff_exists.1 (hmv o (by simp))
    rw [List.length_cons, show pre.length + 1 + f + m = (pre.length + f + m) + 1 by omega]
    refine wpAnyH_take h0 hsel hf hr (fun c a w hq => absurd hq (hQ c _ w)) (yields_move hx) trivial ?_
    have hks : k < listed.size := by rw [inv.size]; exact (Array.getElem?_eq_some_iff.1 h0).1
    refine pre_moves hsel hQ pre f (k + 1) _ _ w (fun j hj => by have := hl (j + 1) (by simp; omega); simpa [Nat.add_assoc, Nat.add_comm 1 j] using this) (fun o ho => hmv o (by simp [ho])) (by simp only [List.length_cons] at hk; omega) (inv.set hr' hkn) (fun i hi => ?_) hB' (fun listed' i1 i2 i3 => ?_)
    · rcases Nat.lt_succ_iff_lt_or_eq.1 hi with h | rfl
      · exact getD_set_up (hp i h)
      · simp [hks]
    · have := h listed' i1 (fun i hi => i2 i (by simp only [List.length_cons] at hi; omega)) (by rw [List.length_cons, show k + (pre.length + 1) = k + 1 + pre.length by omega]; exact i3)
      simpa [runMoves, hx] using this
/-- A region's end, if it ends normally. -/
def normalOnly (Q : Exit → Act → World → Prop) (e : Exit) (a : Act) (w : World) : Prop := e = .normal ∧ Q .normal a w
def preTailB (ops : Array Oper) (p n : Nat) : Bool :=
  Region.noSelect ops && decide (n < ops.size) && decide (p ≤ n) && sinkFrom .any ops p n && Region.chainB .any ops n && Region.lexHead .any ops (ops.size - n) n 0 (Array.replicate ops.size false) && (ops.toList.take p).all fun o => (moveOf o).isSome
open Go.Sort Go.RowKit in
theorem wp_region_pre_tail {id : Nat} {Q : Exit → Act → World → Prop} {a : Act} {w : World} {l : List Oper} (p n : Nat) (hm : P.follows .mixedOrders = true) (hB : preTailB l.toArray p n = true)
    (h : wpQuiet P l.toArray (fun w' => ∃ p : Regrown, w' = grow (redrawn w p.d) p.os) (fun a' => ∀ w', Below w.heap.size w w' → wpList P l.toArray (normalOnly Q) (l.drop n) a' w') ((l.take n).drop p) (runMoves (l.take p) a)) : (Code.region id l.toArray true).wp P Q a w := by
  simp only [preTailB, Bool.and_eq_true, decide_eq_true_eq] at hB
  obtain ⟨⟨⟨⟨⟨⟨hsel, hn⟩, hpn⟩, hs⟩, hc⟩, hlex⟩, hmv⟩ := hB
  have hn' : n < l.length := by simpa using hn
  have htl : ((l.take n).drop p).length = n - p := by simp; omega
  have hdl : (l.drop n).length = l.toArray.size - n := by simp
  have hpl : (l.take p).length = p := by simp; omega
  have inv0 : HeadInv .any l.toArray n (Array.replicate l.toArray.size false) :=
    ⟨by simp, fun j oj _ hl => (by rw [getD_replicate_false] at hl; cases hl), fun t _ ht => getD_in (by simpa using ht) (getD_replicate_false _ _)⟩
  refine Code.wp_mono (Q := normalOnly Q) (fun e a' w' ⟨he, hq⟩ => by subst he; exact hq) ?_
  refine wp_region_any hm ?_
  refine wpAny_of_held _ _ _ _ (S := fun _ => True) ?_
  have key := pre_moves (P := P) (md := .any) (ops := l.toArray) (n := n) (g := l.toArray.size - n) (m := l.toArray.size - n) (Q := normalOnly Q) hsel (fun c a w hq => by cases hq.1) (l.take p) (n - p) 0 (Array.replicate l.toArray.size false) a { w with drawn := w.drawn + 1 }
    (fun j hj => by have hj' : j < p := by rw [hpl] at hj; exact hj
                    simp [hj']) (fun o ho => by
      have := List.all_eq_true.1 hmv o (by simpa using ho)
      exact this) (by omega) inv0 (by omega) (by rw [hpl, show p + (n - p) = n by omega]; exact hlex) (fun listed' i1 i2 i3 => ?_)
  · rw [hpl, show p + (n - p) + (l.toArray.size - n) = l.toArray.size by omega] at key
    exact key
  · refine held_of_any _ _ _ _ ?_
    rw [hpl, Nat.zero_add] at i2 i3
    have H := headQ_lexP (P := P) (md := .any) (p := p) (g := l.toArray.size - n) (C := fun w' => ∃ p : Regrown, w' = grow (redrawn w p.d) p.os) hsel hs hc hn ((l.take n).drop p) p listed' _ (fun j hj => by
      have hj' : p + j < n := by rw [htl] at hj; omega
      rw [List.getElem?_drop, List.getElem?_take, if_pos hj']
      simp) (by rw [htl]; omega) i1 i2 (by rw [htl]; exact i3) h
    have := any_of_headQ (Q' := normalOnly Q) (g := l.toArray.size - n) (fun listed a' w' hw' hL => by
      have := wpAny_of_seq (P := P) (ops := l.toArray) (md := .any) (Q' := normalOnly Q) (l.drop n) n listed a' w' (fun j => by simp [List.getElem?_drop]) (by rw [hdl]; exact hL.1) (by
        obtain ⟨p, hp⟩ := hw'
        exact hL.2 w' (hp ▸ below_regrown w p.d p.os))
      rwa [hdl] at this) _ _ _ { w with drawn := w.drawn + 1 } ⟨⟨w.drawn + 1, #[]⟩, by rw [grow_empty]; rfl⟩ H
    rw [htl] at this
    exact this
end
theorem normalOnly_normal (Q : Exit → Act → World → Prop) (a : Act) (w : World) : normalOnly Q .normal a w = Q .normal a w := by simp [normalOnly]
end Go.Proofs.Ytjbjbdkmomkclab
