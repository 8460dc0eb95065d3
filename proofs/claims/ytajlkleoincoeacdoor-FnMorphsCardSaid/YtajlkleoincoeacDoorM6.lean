import Derived.Test.YtajlkleoincoeacDoorRows
import Derived.Test.YtajlkleoincoeacDoorM5
import Derived.Test.YtajlkleoincoeacDoorM2
import Derived.OrdersHeld
import Derived.Test.YtajlkleoincoeacDoorM3
import Derived.Test.YtajlkleoincoeacDoorM4
/- The laws' own helpers over books: roomBehind, szBook, eqBook. -/
namespace Go.Proofs.YtajlkleoincoeacDoor
set_option maxRecDepth 100000
open Go.RowKit
set_option linter.unusedVariables false
theorem room_any (n : Nat) (w : World) (h : n ≤ 1000000) :
    Calls Tryd.prog 40 #[.int .i64 n] w fun e w' => e = .returned (.int .i64 (roomN n)) ∧ w = w' := by
  by_cases h6 : n % 6 = 5
  · have h1 : ((n : Int) % 6 == 5) = true := by simp; omega
    have hv : roomN n = 0 := by simp [roomN, h6]
    go_enter Tryd.func40, Tryd.ntmps40
    go_wp2
    go_ret
    exact ⟨ret_int (by rw [hv]; rfl), rfl⟩
  · have h1 : ((n : Int) % 6 == 5) = false := by simp; omega
    by_cases h3 : n % 3 = 0
    · have h2 : ((n : Int) % 3 == 0) = true := by simp; omega
      have hv : roomN n = 1 := by simp [roomN, h6, h3]
      clear h6 h3
      go_enter Tryd.func40, Tryd.ntmps40
      go_wp2
      go_ret
      exact ⟨ret_int (by rw [hv]; rfl), rfl⟩
    · have h2 : ((n : Int) % 3 == 0) = false := by simp; omega
      have hv : roomN n = n := by simp [roomN, h6, h3]
      clear h6 h3
      have HV := Lib.hid hv
      clear hv
      go_enter Tryd.func40, Tryd.ntmps40
      go_wp2
      go_ret
      exact ⟨ret_int (by rw [HV.out]), rfl⟩
/-- What spare room is filled with. -/
def fillF : Nat → Nat := fun i => if i = 0 then 60201 else 0
theorem infoFr : (Tryd.prog.info? 26).map (fun i => (i.zero, i.size, i.bytes)) = some (some (.agg (FC zeroF)), 12, 24) := by kernel_rfl
theorem build_fill (w : World) : (Instr.build 26 #[(0, .int .u16 60201)]).run Tryd.prog w = .ok (.agg (FC fillF)) w := by kernel_rfl
/-- What a call hands back that copies a list: to be read. -/
def GivesSl {α : Type} (E : Enc α) (L : List α) (w : World) (e : Ending) (w' : World) : Prop :=
  ∃ u, e = .returned u ∧ SlAt E w' w'.heap.size u L ∧ Below w.heap.size w w'
theorem SlAt.roomy {α : Type} {E : Enc α} {w : World} {B : Nat} {v : Value} {z : α} {L : List α} (h : SlAt E w B v ((roomy z L).take L.length)) : SlAt E w B v L := by rw [roomy_take] at h; exact h
end Go.Proofs.YtajlkleoincoeacDoor

/- The laws' own helpers over []int64: eqInt64S, markInt64S, heldInt64S. -/
namespace Go.Proofs.YtajlkleoincoeacDoor
open Go.RowKit
set_option linter.unusedVariables false
theorem eq_of_getD {α : Type} {z : α} {L M : List α} (hl : L.length = M.length) (h : ∀ j, j < L.length → L.getD j z = M.getD j z) : L = M := by
  apply List.ext_getElem?
  intro i
  by_cases hi : i < L.length
  · have := h i hi
    simp only [List.getD_eq_getElem?_getD, List.getElem?_eq_getElem hi, List.getElem?_eq_getElem (show i < M.length by omega), Option.getD_some] at this
    rw [List.getElem?_eq_getElem hi, List.getElem?_eq_getElem (show i < M.length by omega), this]
  · rw [List.getElem?_eq_none (by omega), List.getElem?_eq_none (by omega)]
theorem getD_get {α : Type} {z : α} {L : List α} {i : Nat} (h : i < L.length) : L[i]? = some (L.getD i z) := by
  rw [List.getD_eq_getElem?_getD, List.getElem?_eq_getElem h]; rfl
/-- A cell of a list of numbers. -/
theorem int_cell {w : World} {k : IntKind} {b o : Nat} {L : List Int} (h : w.rangeAt b o ((eI k).cells L)) {i : Nat} (hi : i < L.length) : w.cell? ⟨b, o + i, none⟩ = some (.int k (L.getD i 0)) := by
  have := range_part h (getD_get (z := 0) hi) 0 _ rfl
  rwa [show (eI k).n = 1 from rfl, Nat.mul_one, Nat.add_zero] at this
theorem own_apart {u v : Value} {B : Nat} (h4 : ∀ k, u.ownBlock = some k → k < B) (h7 : ∀ k, v.ownBlock = some k → B ≤ k) : u.ownBlock = none ∨ u.ownBlock ≠ v.ownBlock := by
  cases hu : u.ownBlock with
  | none => exact .inl rfl
  | some k =>
    refine .inr fun e => ?_
    have := h4 k hu
    have := h7 k e.symm
    omega
end Go.Proofs.YtajlkleoincoeacDoor

/- A region that draws its order: first some plain moves of slots, whose values any operation may come between, then operations that only read and calls that only make memory (in whatever order), then a tail in one forced order. One walk of the text's order serves every order. No function of the program is named. -/
namespace Go.Proofs.YtajlkleoincoeacDoor
section
variable {P : Program} {ops : Array Oper} {md : Region.Mode} {C : World → Prop}
def sinkFrom (md : Region.Mode) (ops : Array Oper) (p n : Nat) : Bool := (List.range n).all fun i => decide (i < p) || (List.range (n + 1)).any fun j => decide (i < j) && Region.waitsFor md ops j i
theorem tail_waitsP {p n : Nat} {listed : Array Bool} (hs : sinkFrom md ops p n = true) (hc : Region.chainB md ops n = true) (hn : n < ops.size) (inv : HeadInv md ops n listed) (hp : ∀ i, i < p → listed.getD i true = true) :
    ∀ (d i : Nat), n - i = d → i < n → listed.getD i true = false → ∀ t, n ≤ t → t ∉ Region.ready md ops listed := by
  intro d
  induction d using Nat.strongRecOn with
  | _ d ih =>
    intro i hd hi hun t ht hr
    obtain ⟨_, ot, hot, hall⟩ := mem_ready.1 hr
    have htlt : t < ops.size := (Array.getElem?_eq_some_iff.1 hot).1
    have hip : ¬ i < p := fun h => by rw [hp i h] at hun; cases hun
    by_cases htn : t = n
    · subst htn
      have h1 := List.all_eq_true.1 hs i (List.mem_range.2 hi)
      rw [decide_eq_false hip, Bool.false_or] at h1
      obtain ⟨j, hj, hj2⟩ := List.any_eq_true.1 h1
      simp only [Bool.and_eq_true, decide_eq_true_eq] at hj2
      obtain ⟨oj, hoj, e, he, hb, hon⟩ := Region.waitsFor_spec hj2.2
      have hjle : j ≤ t := by have := List.mem_range.1 hj; omega
      by_cases hjt : j = t
      · subst hjt
        have : oj = ot := Option.some.inj (hoj.symm.trans hot)
        subst this
        have h2 := hall e he hb
        rw [hon, getD_both hun] at h2
        cases h2
      · cases hl : listed.getD j false with
        | true =>
          have h2 := inv.closed j oj hoj hl e he hb
          rw [hon, getD_both hun] at h2
          cases h2
        | false =>
          have hjs : j < listed.size := by rw [inv.size]; omega
          exact ih (t - j) (by omega) j rfl (by omega) (getD_in hjs hl) t (Nat.le_refl _) hr
    · have h1 := List.all_eq_true.1 hc t (List.mem_range.2 htlt)
      simp only [Bool.or_eq_true, decide_eq_true_eq] at h1
      rcases h1 with h1 | h1
      · omega
      · obtain ⟨o', ho', e, he, hb, hon⟩ := Region.waitsFor_spec h1
        have : o' = ot := Option.some.inj (ho'.symm.trans hot)
        subst this
        have h2 := hall e he hb
        rw [hon, getD_both (inv.tail (t - 1) (by omega) (by omega))] at h2
        cases h2
theorem getD_set_up {listed : Array Bool} {i j : Nat} (h : listed.getD j true = true) : (listed.setIfInBounds i true).getD j true = true := by
  by_cases hij : i = j
  · subst hij
    rcases Nat.lt_or_ge i listed.size with hlt | hge
    · simp [hlt]
    · simp [Nat.not_lt.2 hge]
  · rw [getD_set_ne true hij]; exact h
theorem headQ_firstP {p n i : Nat} {oi : Oper} {v : Value} {L : Array Bool → Act → Prop} (hi : ops[i]? = some oi) (hsel : ∀ (j : Nat) (o : Oper) cs b, ops[j]? = some o → o.op ≠ .select cs b)
    (hs : sinkFrom md ops p n = true) (hc : Region.chainB md ops n = true) (hn : n < ops.size) (hin : i < n) (hdone : ∀ listed a, L listed a → ∀ j ∈ Region.ready md ops listed, n ≤ j) :
    ∀ (f : Nat) (listed : Array Bool) (a : Act), HeadInv md ops n listed → (∀ i, i < p → listed.getD i true = true) →
      (∀ j oj, ops[j]? = some oj → j ≠ i → listed.getD j true = false → (∀ e ∈ oj.after, Region.binds md e = true → e.on ≠ i) → oi.apart ops oj = true) →
      i ∈ Region.ready md ops listed → YieldsIn P ops C oi v a →
      HeadQ P md ops C n L f (listed.setIfInBounds i true) (a.put oi.dst v) → HeadQ P md ops C n L (f + 1) listed a := by
  intro f
  induction f with
  | zero =>
    intro listed a inv hp _ hr hy H
    have hun := (mem_ready.1 hr).1
    refine ⟨fun h => (by rw [h] at hr; cases hr), fun j hj => ?_⟩
    have hjn : j < n := by
      rcases Nat.lt_or_ge j n with h | h
      · exact h
      · exact absurd hj (tail_waitsP hs hc hn inv hp _ i rfl hin hun j h)
    refine ⟨hjn, ?_⟩
    by_cases hji : j = i
    · subst hji; exact hy.qOp hi H
    · have := hdone _ _ H j (ready_mono hj hji)
      omega
  | succ f ih =>
    intro listed a inv hp hfree hr hy H
    have hun := (mem_ready.1 hr).1
    refine ⟨fun h => (by rw [h] at hr; cases hr), fun j hj => ?_⟩
    have hjn : j < n := by
      rcases Nat.lt_or_ge j n with h | h
      · exact h
      · exact absurd hj (tail_waitsP hs hc hn inv hp _ i rfl hin hun j h)
    refine ⟨hjn, ?_⟩
    by_cases hji : j = i
    · subst hji; exact hy.qOp hi H
    · have h1 := (H.2 j (ready_mono hj hji)).2
      obtain ⟨hjun, oj, hoj, hall⟩ := mem_ready.1 hj
      have hnot : ∀ e ∈ oj.after, Region.binds md e = true → e.on ≠ i := fun e he hb heq => by
        have h1 := hall e he hb
        rw [heq, getD_both hun] at h1
        cases h1
      have h2 := qOp_put hoj (hfree j oj hoj hji hjun hnot) (fun cs b => hsel i oi cs b hi) (fun cs b => hsel j oj cs b hoj) hy h1
      have hfree' : ∀ k ok, ops[k]? = some ok → k ≠ i → (listed.setIfInBounds j true).getD k true = false →
          (∀ e ∈ ok.after, Region.binds md e = true → e.on ≠ i) → oi.apart ops ok = true := fun k ok hk hki hun hno => by
        refine hfree k ok hk hki ?_ hno
        by_cases hjk : j = k
        · subst hjk; exact hjun
        · rw [getD_set_ne true hjk] at hun; exact hun
      refine qOp_mono (fun a' h3 => ih (listed.setIfInBounds j true) a' (inv.set hj hjn) (fun i hi => getD_set_up (hp i hi)) hfree' (ready_mono hr (Ne.symm hji)) h3.1 ?_) h2
      rw [Array.setIfInBounds_comm _ _ hji]
      exact h3.2
theorem headQ_lexP {p n g : Nat} {Lq : Act → Prop} (hsel : Region.noSelect ops = true) (hs : sinkFrom md ops p n = true) (hc : Region.chainB md ops n = true) (hn : n < ops.size) :
    ∀ (l : List Oper) (k : Nat) (listed : Array Bool) (a : Act), (∀ j, j < l.length → l[j]? = ops[k + j]?) → k + l.length = n → HeadInv md ops n listed → (∀ i, i < p → listed.getD i true = true) →
    Region.lexHead md ops g l.length k listed = true → wpQuiet P ops C Lq l a →
    HeadQ P md ops C n (fun listed' a' => Region.seqB md ops g n listed' = true ∧ Lq a') l.length listed a
  | [], k, listed, a, _, hk, _, _, hB, h => by
    have : k = n := by simpa using hk
    subst this
    exact ⟨by simpa [Region.lexHead] using hB, h⟩
  | o :: l, k, listed, a, hl, hk, inv, hp, hB, h => by
    have h0 : ops[k]? = some o := by simpa using (hl 0 (by simp)).symm
    simp only [List.length_cons, Region.lexHead, Bool.and_eq_true] at hB
    obtain ⟨⟨hr, hf⟩, hB'⟩ := hB
    have hkn : k < n := by simp only [List.length_cons] at hk; omega
    have hr' : k ∈ Region.ready md ops listed := by simpa using hr
    have hst : qOp P ops C k (wpQuiet P ops C Lq l) a := by unfold qOp; simp only [h0]; exact h
    obtain ⟨v, hy, hK⟩ := yieldsIn_of_qOp h0 hst
    exact headQ_firstP h0 (Region.noSelect_spec hsel) hs hc hn hkn (fun listed' a' hL => seqB_ready hL.1) l.length listed a inv hp (Region.free_spec h0 hf) hr' hy
      (headQ_lexP hsel hs hc hn l (k + 1) _ _ (fun j hj => by have := hl (j + 1) (by simp; omega); simpa [Nat.add_assoc, Nat.add_comm 1 j] using this) (by simp only [List.length_cons] at hk; omega) (inv.set hr' hkn) (fun i hi => getD_set_up (hp i hi)) hB' hK)
theorem held_of_any {Q : Exit → Act → World → Prop} : ∀ (fuel : Nat) (listed : Array Bool) (a : Act) (w : World), wpAny P md ops Q fuel listed a w → wpAnyH P md ops Q (fun _ => True) fuel listed a w
  | 0, _, _, _, h => h
  | fuel + 1, _, _, _, h => ⟨h.1, fun i hi => wpOp_mono (fun a' w' h' => ⟨trivial, held_of_any fuel _ a' w' h'⟩) (h.2 i hi)⟩
/-- The operand of a plain move. -/
def moveOf (o : Oper) : Option Operand := if o.guard.isNone then (match o.op with | .move x => some x | _ => none) else none
def runMoves : List Oper → Act → Act
  | [], a => a
  | o :: l, a => runMoves l (match moveOf o with | some x => a.put o.dst (a.eval x) | none => a)
theorem yields_move {o : Oper} {a : Act} {x : Operand} (h : moveOf o = some x) : YieldsIf P ops (fun _ => True) o (a.eval x) a := by
  unfold moveOf at h
  split at h
  · rename_i hg
    split at h
    · rename_i y ho
      cases h
      exact .inl ⟨by simp [Region.wanted, Option.isNone_iff_eq_none.1 hg], fun w _ => by unfold execOp; simp only [ho, Sem.run_pure]⟩
    · cases h
  · cases h
theorem pre_moves {n g m : Nat} {Q : Exit → Act → World → Prop} (hsel : Region.noSelect ops = true) (hQ : ∀ c a w, ¬ Q (.panic c) a w) :
    ∀ (pre : List Oper) (f k : Nat) (listed : Array Bool) (a : Act) (w : World), (∀ j, j < pre.length → pre[j]? = ops[k + j]?) → (∀ o ∈ pre, (moveOf o).isSome = true) → k + pre.length ≤ n → HeadInv md ops n listed → (∀ i, i < k → listed.getD i true = true) →
    Region.lexHead md ops g (pre.length + f) k listed = true →
    (∀ listed', HeadInv md ops n listed' → (∀ i, i < k + pre.length → listed'.getD i true = true) → Region.lexHead md ops g f (k + pre.length) listed' = true → wpAnyH P md ops Q (fun _ => True) (f + m) listed' (runMoves pre a) w) →
    wpAnyH P md ops Q (fun _ => True) (pre.length + f + m) listed a w
  | [], f, k, listed, a, w, _, _, _, inv, hp, hB, h => by
    simp only [List.length_nil, Nat.zero_add, Nat.add_zero] at h hB ⊢
    exact h listed inv hp hB
  | o :: pre, f, k, listed, a, w, hl, hmv, hk, inv, hp, hB, h => by
    have h0 : ops[k]? = some o := by simpa using (hl 0 (by simp)).symm
    rw [List.length_cons, show pre.length + 1 + f = (pre.length + f) + 1 by omega] at hB
    simp only [Region.lexHead, Bool.and_eq_true] at hB
    obtain ⟨⟨hr, hf⟩, hB'⟩ := hB
    have hkn : k < n := by simp only [List.length_cons] at hk; omega
    have hr' : k ∈ Region.ready md ops listed := by simpa using hr
    obtain ⟨x, hx⟩ := Option.isSome_iff_exists.1 (hmv o (by simp))
    rw [List.length_cons, show pre.length + 1 + f + m = (pre.length + f + m) + 1 by omega]
    refine wpAnyH_take h0 hsel hf hr (fun c a w hq => absurd hq (hQ c _ w)) (yields_move hx) trivial ?_
    have hks : k < listed.size := by rw [inv.size]; exact (Array.getElem?_eq_some_iff.1 h0).1
    refine pre_moves hsel hQ pre f (k + 1) _ _ w (fun j hj => by have := hl (j + 1) (by simp; omega); simpa [Nat.add_assoc, Nat.add_comm 1 j] using this) (fun o ho => hmv o (by simp [ho])) (by simp only [List.length_cons] at hk; omega) (inv.set hr' hkn) (fun i hi => ?_) hB' (fun listed' i1 i2 i3 => ?_)
    · rcases Nat.lt_succ_iff_lt_or_eq.1 hi with h | rfl
      · exact getD_set_up (hp i h)
      · simp [hks]
    · have := h listed' i1 (fun i hi => i2 i (by simp only [List.length_cons] at hi; omega)) (by rw [List.length_cons, show k + (pre.length + 1) = k + 1 + pre.length by omega]; exact i3)
      simpa [runMoves, hx] using this
/-- A region's end, if it ends normally. -/
def normalOnly (Q : Exit → Act → World → Prop) (e : Exit) (a : Act) (w : World) : Prop := e = .normal ∧ Q .normal a w
def preTailB (ops : Array Oper) (p n : Nat) : Bool :=
  Region.noSelect ops && decide (n < ops.size) && decide (p ≤ n) && sinkFrom .any ops p n && Region.chainB .any ops n && Region.lexHead .any ops (ops.size - n) n 0 (Array.replicate ops.size false) && (ops.toList.take p).all fun o => (moveOf o).isSome
open Go.Sort Go.RowKit in
theorem wp_region_pre_tail {id : Nat} {Q : Exit → Act → World → Prop} {a : Act} {w : World} {l : List Oper} (p n : Nat) (hm : P.follows .mixedOrders = true) (hB : preTailB l.toArray p n = true)
    (h : wpQuiet P l.toArray (fun w' => ∃ p : Regrown, w' = grow (redrawn w p.d) p.os) (fun a' => ∀ w', Below w.heap.size w w' → wpList P l.toArray (normalOnly Q) (l.drop n) a' w') ((l.take n).drop p) (runMoves (l.take p) a)) : (Code.region id l.toArray true).wp P Q a w := by
  simp only [preTailB, Bool.and_eq_true, decide_eq_true_eq] at hB
  obtain ⟨⟨⟨⟨⟨⟨hsel, hn⟩, hpn⟩, hs⟩, hc⟩, hlex⟩, hmv⟩ := hB
  have hn' : n < l.length := by simpa using hn
  have htl : ((l.take n).drop p).length = n - p := by simp; omega
  have hdl : (l.drop n).length = l.toArray.size - n := by simp
  have hpl : (l.take p).length = p := by simp; omega
  have inv0 : HeadInv .any l.toArray n (Array.replicate l.toArray.size false) :=
    ⟨by simp, fun j oj _ hl => (by rw [getD_replicate_false] at hl; cases hl), fun t _ ht => getD_in (by simpa using ht) (getD_replicate_false _ _)⟩
  refine Code.wp_mono (Q := normalOnly Q) (fun e a' w' ⟨he, hq⟩ => by subst he; exact hq) ?_
  refine wp_region_any hm ?_
  refine wpAny_of_held _ _ _ _ (S := fun _ => True) ?_
  have key := pre_moves (P := P) (md := .any) (ops := l.toArray) (n := n) (g := l.toArray.size - n) (m := l.toArray.size - n) (Q := normalOnly Q) hsel (fun c a w hq => by cases hq.1) (l.take p) (n - p) 0 (Array.replicate l.toArray.size false) a { w with drawn := w.drawn + 1 }
    (fun j hj => by have hj' : j < p := by rw [hpl] at hj; exact hj
                    simp [hj']) (fun o ho => by
      have := List.all_eq_true.1 hmv o (by simpa using ho)
      exact this) (by omega) inv0 (by omega) (by rw [hpl, show p + (n - p) = n by omega]; exact hlex) (fun listed' i1 i2 i3 => ?_)
  · rw [hpl, show p + (n - p) + (l.toArray.size - n) = l.toArray.size by omega] at key
    exact key
  · refine held_of_any _ _ _ _ ?_
    rw [hpl, Nat.zero_add] at i2 i3
    have H := headQ_lexP (P := P) (md := .any) (p := p) (g := l.toArray.size - n) (C := fun w' => ∃ p : Regrown, w' = grow (redrawn w p.d) p.os) hsel hs hc hn ((l.take n).drop p) p listed' _ (fun j hj => by
      have hj' : p + j < n := by rw [htl] at hj; omega
      rw [List.getElem?_drop, List.getElem?_take, if_pos hj']
      simp) (by rw [htl]; omega) i1 i2 (by rw [htl]; exact i3) h
    have := any_of_headQ (Q' := normalOnly Q) (g := l.toArray.size - n) (fun listed a' w' hw' hL => by
      have := wpAny_of_seq (P := P) (ops := l.toArray) (md := .any) (Q' := normalOnly Q) (l.drop n) n listed a' w' (fun j => by simp [List.getElem?_drop]) (by rw [hdl]; exact hL.1) (by
        obtain ⟨p, hp⟩ := hw'
        exact hL.2 w' (hp ▸ below_regrown w p.d p.os))
      rwa [hdl] at this) _ _ _ { w with drawn := w.drawn + 1 } ⟨⟨w.drawn + 1, #[]⟩, by rw [grow_empty]; rfl⟩ H
    rw [htl] at this
    exact this
end
theorem normalOnly_normal (Q : Exit → Act → World → Prop) (a : Act) (w : World) : normalOnly Q .normal a w = Q .normal a w := by simp [normalOnly]
end Go.Proofs.YtajlkleoincoeacDoor

/- spec: l01Ok, l01Differ at whatever address; l02Ok, ValidBook, l02Same, SameBook, l02Jumps, JumpsOf, l02Sum, AllJumps, LoopJumps. -/
namespace Go.Proofs.YtajlkleoincoeacDoor
set_option maxRecDepth 100000
open Go.RowKit
set_option linter.unusedVariables false
set_option maxHeartbeats 400000 in
theorem okAt_any (b o : Nat) (f : Nat → Nat) (w : World) (hB : w.rangeAt b o (FC f).toList) :
    Calls Tryd.prog 72 #[.pointer (some ⟨b, o, none⟩)] w fun e w' => e = .returned (.bool (okF f)) ∧ w = w' := by
  go_enter Tryd.func72, Tryd.ntmps72
  go_wp2
  go_loop [3] (fun i => ∃ k : Nat, k ≤ 12 ∧ i = .int .i64 k ∧ (∀ j, j < k → f j ≤ 4095)) (fun i => 12 - (intOf i).toNat)
  case atStart => exact ⟨0, by omega, rfl, by omega⟩
  case round =>
    obtain ⟨k, hk, rfl, he⟩ := hrel
    have HE := Lib.hid he
    clear he
    by_cases hlt : k < 12
    · have c1 := fr_cell hB hlt
      by_cases hf : f k ≤ 4095
      · go_wp2
        go_round
        case rel =>
          go_light
          refine ⟨k + 1, by omega, by go_num, ?_⟩
          intro j hj
          rcases Nat.lt_succ_iff_lt_or_eq.1 hj with h | rfl
          · exact HE.out j h
          · exact hf
        case measure => simp [intOf]; omega
      · go_wp2
        go_ret
        exact ⟨ret_bool (okF_false.2 ⟨k, hlt, by omega⟩).symm, rfl⟩
    · go_wp2
      go_ret
      have h12 : k = 12 := by omega
      subst h12
      exact ⟨ret_bool (okF_iff.2 HE.out).symm, rfl⟩
set_option maxHeartbeats 400000 in
theorem specSame_any (u v : Value) (L M : List (Nat → Nat)) (w : World) (hu : SlAt eFr w w.heap.size u L) (hv : SlAt eFr w w.heap.size v M) :
    Calls Tryd.prog 78 #[u, v] w fun e w' => e = .returned (.bool (eqB L M)) ∧ Below w.heap.size w w' := by
  obtain ⟨i0, hi0⟩ : ∃ i, Tryd.prog.info? 24 = some i := ⟨_, rfl⟩
  obtain ⟨A, c, rfl, h1, h2, hA⟩ := hu
  obtain ⟨B, d, rfl, h3, h4, hB⟩ := hv
  unfold maxLen at h2 h4
  by_cases hl : L.length = M.length
  · have e1 : ((L.length : Int) != (M.length : Int)) = false := by simp [hl]
    have HL := Lib.hid hl
    clear hl
    go_enter Tryd.func78, Tryd.ntmps78
    go_wp2
    go_loopw [5] (fun i wr => ∃ k : Nat, k ≤ L.length ∧ i = .int .i64 k ∧ (∀ j, j < k → eqF (fAt L j) (fAt M j) = true) ∧ Below w.heap.size w wr) (fun i _ => L.length - (intOf i).toNat)
    case atStart => exact ⟨0, by omega, rfl, by omega, Below.refl _ _⟩
    case round =>
      obtain ⟨k, hk, rfl, he, hb⟩ := hrel
      have HE := Lib.hid he
      clear he
      by_cases hlt : k < L.length
      · have hltM : k < M.length := by rw [← HL.out]; exact hlt
        obtain ⟨b1, o1, rfl, hb1, r1⟩ := hA (by omega)
        obtain ⟨b2, o2, rfl, hb2, r2⟩ := hB (by omega)
        have g1 := range_below (range_part r1 (fAt_get hlt)) hb hb1
        have g2 := range_below (range_part r2 (fAt_get hltM)) hb hb2
        have l1 : b1 < wr.heap.size := Nat.lt_of_lt_of_le hb1 hb.size
        have l2 : b2 < wr.heap.size := Nat.lt_of_lt_of_le hb2 hb.size
        rw [eFr_n] at g1 g2
        clear hA hB r1 r2
        have hq := fun w => run_neq_fr (P := Tryd.prog) w (fAt L k) (fAt M k) Tryd.underlying26 (by kernel_rfl) Tryd.underlying24 hi0 (by kernel_rfl)
        clear hi0
        generalize hE : eqF (fAt L k) (fAt M k) = q at *
        go_wp2_with fail
        refine wp_region_calm (by kernel_rfl) (by kernel_rfl) ?_
        repeat (first | (refine wpQuiet_load_at rfl 26 24 _ rfl _ _ rfl (by first | exact g1 | exact g2) (by first | exact l1 | exact l2) Tryd.underlying26 (by kernel_rfl) ?_) | quiet_step (fail))
        refine wpQuiet_nil ?_
        intro w3 hb3
        replace hb := grown_below hb hb3 hb.size
        clear g1 g2 hb3
        have HQ := Lib.hid hE
        clear hE
        cases q with
        | true =>
          go_wp2
          go_roundw
          case rel =>
            go_light
            refine ⟨k + 1, by omega, by go_num, ?_, hb⟩
            intro j hj
            rcases Nat.lt_succ_iff_lt_or_eq.1 hj with h | rfl
            · exact HE.out j h
            · exact HQ.out
          case measure => simp [intOf]; omega
        | false =>
          go_wp2
          go_ret
          exact ⟨ret_bool (eqB_false hlt HQ.out).symm, hb⟩
      · go_wp2
        go_ret
        have hkl : k = L.length := by omega
        subst hkl
        exact ⟨ret_bool ((eqB_iff HL.out).2 HE.out).symm, hb⟩
  · have e1 : ((L.length : Int) != (M.length : Int)) = true := by simp; omega
    have HL := Lib.hid hl
    clear hl
    go_enter Tryd.func78, Tryd.ntmps78
    go_wp2
    go_ret
    exact ⟨ret_bool (eqB_len HL.out).symm, Below.refl _ _⟩
theorem specSameBook_any (u v : Value) (L M : List (Nat → Nat)) (w : World) (hu : SlAt eFr w w.heap.size u L) (hv : SlAt eFr w w.heap.size v M) :
    Calls Tryd.prog 32 #[u, v] w fun e w' => e = .returned (.bool (eqB L M)) ∧ Below w.heap.size w w' := by
  have cS := specSame_any u v L M w hu hv
  obtain ⟨A, c, rfl, h1, h2, hA⟩ := hu
  obtain ⟨B, d, rfl, h3, h4, hB⟩ := hv
  clear hA hB
  go_enter Tryd.func32, Tryd.ntmps32
  go_wp2_with (go_at_call 78; refine cS.mono ?_; rintro e w' ⟨rfl, hb1⟩)
  go_ret
  exact ⟨rfl, hb1⟩
set_option maxHeartbeats 1000000 in
theorem differAt_any (b1 o1 b2 o2 : Nat) (f g : Nat → Nat) (hf : ∀ k, f k < 65536) (hg : ∀ k, g k < 65536) (w : World) (hA : w.rangeAt b1 o1 (FC f).toList) (l1 : b1 < w.heap.size) (hB : w.rangeAt b2 o2 (FC g).toList) (l2 : b2 < w.heap.size) :
    Calls Tryd.prog 115 #[.pointer (some ⟨b1, o1, none⟩), .pointer (some ⟨b2, o2, none⟩)] w fun e' w' => e' = .returned (.int .i64 (dots (unlikeF f g)).length) ∧ Below w.heap.size w w' := by
  have b4 := Blk.new w 26 zeroF
  have h0 := (Below.refl w.heap.size w).alloc (Nat.le_refl _) (.cells (FC zeroF) 26)
  rw [FC_zero] at b4 h0
  go_enter Tryd.func115, Tryd.ntmps115
  go_wp2
  generalize (w.alloc _) = w1 at *
  go_loopw [6] (fun i wr => ∃ k : Nat, k ≤ 12 ∧ i = .int .i64 k ∧ Blk wr (w.heap.size) 26 (fun y => if y < k then unlikeF f g y else 0) ∧ Below w.heap.size w wr) (fun i _ => 12 - (intOf i).toNat)
  case atStart => exact ⟨0, by omega, rfl, b4.ext (by simp [zeroF]), h0⟩
  case round =>
    obtain ⟨k, hk, rfl, b4, hb⟩ := hrel
    by_cases hlt : k < 12
    · have c1 := fr_cell (range_below hA hb l1) hlt
      have c2 := fr_cell (range_below hB hb l2) hlt
      have c4 := b4.cell hlt
      have f4 := b4.free k
      have hop := u16_xor_nat (f k) (g k) (hf k) (hg k)
      go_wp2
      go_region
      go_wp2
      go_roundw
      case rel =>
        go_light
        refine ⟨k + 1, by omega, by go_num, ((b4.set hlt _).ext ?_).drew, (hb.setCell (p := ⟨w.heap.size, k, none⟩) (by show w.heap.size ≤ w.heap.size; omega) _).drew⟩
        intro j hj
        unfold upd
        by_cases e : j = k
        · subst e; simp [unlikeF]
        · rw [if_neg e]; simp only [show j < k + 1 ↔ j < k by omega]
      case measure => simp [intOf]; omega
    · have h12 : k = 12 := by omega
      subst h12
      replace b4 := b4.ext (f' := unlikeF f g) (fun j hj => by rw [if_pos (by omega)])
      go_wp2_with (go_at_call 141; refine (l01Count_any _ _ _ (unlikeF_lt hf hg) b4).mono ?_; rintro e' w2 ⟨rfl, hb1⟩)
      go_ret
      exact ⟨rfl, grown_below hb hb1 hb.size⟩
theorem unlikeF_ok' {f g : Nat → Nat} (hf : okF f = true) (hg : okF g = true) : okF (unlikeF f g) = true := okF_iff.2 fun y hy => by
  have h1 := okF_iff.1 hf y hy
  have h2 := okF_iff.1 hg y hy
  have : unlikeF f g y < 2 ^ 12 := Nat.xor_lt_two_pow (by omega) (by omega)
  omega
/-- .. of valid frames: by how many dots they differ. -/
theorem differAt_ok (b1 o1 b2 o2 : Nat) (f g : Nat → Nat) (hf : ∀ k, f k < 65536) (hg : ∀ k, g k < 65536) (of : okF f = true) (og : okF g = true) (w : World) (hA : w.rangeAt b1 o1 (FC f).toList) (l1 : b1 < w.heap.size) (hB : w.rangeAt b2 o2 (FC g).toList) (l2 : b2 < w.heap.size) :
    Calls Tryd.prog 115 #[.pointer (some ⟨b1, o1, none⟩), .pointer (some ⟨b2, o2, none⟩)] w fun e' w' => e' = .returned (.int .i64 (difN f g)) ∧ Below w.heap.size w w' := by
  have := differAt_any b1 o1 b2 o2 f g hf hg w hA l1 hB l2
  rw [length_dots _ (unlikeF_ok' of og)] at this
  exact this
theorem infoI64 : (Tryd.prog.info? 2).map (fun i => (i.zero, i.size, i.bytes)) = some (some (.int .i64 0), (eI .i64).n, 8) := by kernel_rfl
end Go.Proofs.YtajlkleoincoeacDoor
