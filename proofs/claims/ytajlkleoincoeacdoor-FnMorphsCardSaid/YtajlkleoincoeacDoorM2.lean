import Derived.Test.YtajlkleoincoeacDoorM1
import Derived.StillTail
import Derived.Deep.Quiet
import Derived.Lib.QuietBelow
import Derived.WalkKit
import Derived.WalkSpells
import Derived.WalkLawsBesides
import Derived.Deep.Light
import Derived.ProofKit
import Derived.Lib.Hide
import Derived.ChangeKeysEq
import Derived.RegionTactic
import Derived.BigQuiet
import Derived.Deep.QuietTactic
import Derived.OpenShut
import Derived.Test.YtajlkleoincoeacDoorRows
/- MORPHS COME NEARER, PLAINLY. No program is named. -/
namespace Go.Proofs.YtajlkleoincoeacDoor
theorem mk_bit (u : Nat → Nat) (n : Nat) : ∀ k y x, x < 12 → 12 * y + x < k → (mk u n k y).testBit x = ((u y).testBit x && decide (rk u (12 * y + x) < n))
  | 0, _, _, _, h => absurd h (Nat.not_lt_zero _)
  | k + 1, y, x, hx, h => by
    rcases Nat.lt_succ_iff_lt_or_eq.1 h with h1 | h1
    · have ih := mk_bit u n k y x hx h1
      unfold mk
      split
      · unfold upd
        split
        · rename_i hy
          subst hy
          rw [Nat.testBit_or, ih, Nat.testBit_two_pow]
          have hne : ¬ (k % 12 = x) := by omega
          simp [hne]
        · exact ih
      · exact ih
    · have e1 : k / 12 = y := by omega
      have e2 : k % 12 = x := by omega
      by_cases hr : rk u k < n
      · cases hb : (u y).testBit x with
        | true =>
          rw [mk_yes hr (by rw [e1, e2]; exact hb), e1, e2]
          unfold upd
          rw [if_pos rfl, Nat.testBit_or, Nat.testBit_two_pow, h1]
          simp [hr]
        | false =>
          rw [mk_no (.inr (by rw [e1, e2]; exact hb)), mk_top u n k y x hx (by omega)]
          simp
      · rw [mk_no (.inl (by omega)), mk_top u n k y x hx (by omega), h1]
        simp [hr]
theorem rk_zero (u : Nat → Nat) : rk u 0 = 0 := rfl
theorem rk_mk (u : Nat → Nat) (n K : Nat) : ∀ k, k ≤ K → rk (mk u n K) k = min n (rk u k)
  | 0, _ => by simp [rk_zero]
  | k + 1, h => by
    have e : 12 * (k / 12) + k % 12 = k := by omega
    rw [rk_succ, rk_succ, rk_mk u n K k (by omega), mk_bit u n K (k / 12) (k % 12) (Nat.mod_lt _ (by decide)) (by omega), e]
    cases hb : (u (k / 12)).testBit (k % 12) with
    | false => simp
    | true =>
      by_cases hr : rk u k < n
      · simp [hr]; omega
      · simp [hr]; omega
theorem rk_rest (u : Nat → Nat) (n K : Nat) : ∀ k, k ≤ K → rk (unlikeF u (mk u n K)) k + min n (rk u k) = rk u k
  | 0, _ => by simp [rk_zero]
  | k + 1, h => by
    have e : 12 * (k / 12) + k % 12 = k := by omega
    have ih := rk_rest u n K k (by omega)
    have hbit : ((unlikeF u (mk u n K)) (k / 12)).testBit (k % 12) = ((u (k / 12)).testBit (k % 12) && !decide (rk u k < n)) := by
      unfold unlikeF
      rw [Nat.testBit_xor, mk_bit u n K (k / 12) (k % 12) (Nat.mod_lt _ (by decide)) (by omega), e]
      cases (u (k / 12)).testBit (k % 12) <;> simp
    rw [rk_succ, rk_succ, hbit]
    cases hb : (u (k / 12)).testBit (k % 12) with
    | false => simpa using ih
    | true =>
      by_cases hr : rk u k < n
      · simp [hr]; omega
      · simp [hr]; omega
theorem unlikeF_okM {a b : Nat → Nat} (ha : okF a = true) (hb : okF b = true) : okF (unlikeF a b) = true := okF_iff.2 fun y hy => by
  have h1 := okF_iff.1 ha y hy
  have h2 := okF_iff.1 hb y hy
  have : a y ^^^ b y < 2 ^ 12 := Nat.xor_lt_two_pow (by omega) (by omega)
  show a y ^^^ b y ≤ 4095
  omega
theorem difN_rk {a b : Nat → Nat} (ha : okF a = true) (hb : okF b = true) : difN a b = rk (unlikeF a b) 144 := (length_dots (unlikeF a b) (unlikeF_okM ha hb)).symm
theorem unlikeF_self (a b : Nat → Nat) : unlikeF a (unlikeF a b) = b := by
  funext y
  unfold unlikeF
  rw [← Nat.xor_assoc, Nat.xor_self, Nat.zero_xor]
theorem mk_ok (u : Nat → Nat) (n k : Nat) : okF (mk u n k) = true := okF_iff.2 fun y _ => by have := mk_lt u n k y; omega
/-- From a so far. -/
theorem difN_gone {a b : Nat → Nat} (ha : okF a = true) (hb : okF b = true) {n : Nat} (hn : n ≤ difN a b) : difN a (morK a b n 144) = n := by
  have e : unlikeF a (morK a b n 144) = mk (unlikeF a b) n 144 := unlikeF_self a _
  have : difN a (morK a b n 144) = rk (mk (unlikeF a b) n 144) 144 := by
    unfold difN
    rw [e]
    exact (length_dots _ (mk_ok _ _ _)).symm
  rw [this, rk_mk _ _ _ _ (Nat.le_refl _), ← difN_rk ha hb]
  omega
theorem difN_left {a b : Nat → Nat} (ha : okF a = true) (hb : okF b = true) {n : Nat} (hn : n ≤ difN a b) : difN (morK a b n 144) b = difN a b - n := by
  have e : unlikeF (morK a b n 144) b = unlikeF (unlikeF a b) (mk (unlikeF a b) n 144) := by
    funext y
    unfold morK unlikeF
    rw [Nat.xor_assoc, Nat.xor_comm (mk _ _ _ _), ← Nat.xor_assoc]
  have h1 := rk_rest (unlikeF a b) n 144 144 (Nat.le_refl _)
  have : difN (morK a b n 144) b = rk (unlikeF (unlikeF a b) (mk (unlikeF a b) n 144)) 144 := by
    unfold difN
    rw [e]
    exact (length_dots _ (unlikeF_okM (unlikeF_okM ha hb) (mk_ok _ _ _))).symm
  rw [← difN_rk ha hb] at h1
  omega
/-- Frames that differ by no dot are alike. -/
theorem difN_zero {a b : Nat → Nat} (ha : okF a = true) (hb : okF b = true) (h : difN a b = 0) : eqF a b = true := by
  rw [difN_rk ha hb] at h
  refine eqF_iff.2 fun y hy => ?_
  have h1 := okF_iff.1 ha y hy
  have h2 := okF_iff.1 hb y hy
  apply Nat.eq_of_testBit_eq
  intro i
  by_cases hi : i < 12
  · rcases hx : (unlikeF a b y).testBit i with _ | _
    · have h3 : (a y ^^^ b y).testBit i = false := hx
      rw [Nat.testBit_xor] at h3
      cases h4 : (a y).testBit i <;> cases h5 : (b y).testBit i <;> simp [h4, h5] at h3 ⊢
    · have hm : (i, y) ∈ dotsTo (unlikeF a b) 144 := mem_dotsTo.2 ⟨by dsimp only; omega, hi, hx⟩
      have : dotsTo (unlikeF a b) 144 = [] := List.eq_nil_of_length_eq_zero h
      rw [this] at hm
      cases hm
  · have h3 : a y < 2 ^ i := Nat.lt_of_lt_of_le (by omega : a y < 2 ^ 12) (Nat.pow_le_pow_right (by decide) (by omega))
    have h4 : b y < 2 ^ i := Nat.lt_of_lt_of_le (by omega : b y < 2 ^ 12) (Nat.pow_le_pow_right (by decide) (by omega))
    rw [Nat.testBit_lt_two_pow h3, Nat.testBit_lt_two_pow h4]
theorem morF_gone {a b : Nat → Nat} (ha : okF a = true) (hb : okF b = true) {s t : Nat} (hs : s ≤ t) : difN a (morF a b s t) = difN a b * s / t := difN_gone ha hb (morN_le hs)
theorem morF_left {a b : Nat → Nat} (ha : okF a = true) (hb : okF b = true) {s t : Nat} (hs : s ≤ t) : difN (morF a b s t) b = difN a b - difN a b * s / t := difN_left ha hb (morN_le hs)
theorem morF_first {a b : Nat → Nat} (ha : okF a = true) (hb : okF b = true) (t : Nat) : eqF (morF a b 0 t) a = true := by
  have h := morF_gone ha hb (Nat.zero_le t)
  have := difN_zero ha (morK_ok ha _ _) (by rw [show morK a b (morN a b 0 t) 144 = morF a b 0 t from rfl, h]; simp)
  exact eqF_iff.2 fun y hy => (eqF_iff.1 this y hy).symm
theorem morF_last {a b : Nat → Nat} (ha : okF a = true) (hb : okF b = true) {t : Nat} (ht : 0 < t) : eqF (morF a b t t) b = true := by
  have h := morF_left ha hb (Nat.le_refl t)
  exact difN_zero (morK_ok ha _ _) hb (by rw [h, Nat.mul_div_cancel _ ht]; omega)
end Go.Proofs.YtajlkleoincoeacDoor

/- A region that draws its order, in two parts: first operations that only read and calls that only make memory (in whatever order), then a tail in one forced order, which may write. One walk of the text's order serves every order. After the library's theorem for a world that stays the very same; here over a class of worlds. No function of the program is named. -/
namespace Go.Proofs.YtajlkleoincoeacDoor
section
variable {P : Program} {ops : Array Oper} {md : Region.Mode} {C : World → Prop}
/-- The head in whatever order, f operations still to come; then L. -/
def HeadQ (P : Program) (md : Region.Mode) (ops : Array Oper) (C : World → Prop) (n : Nat) (L : Array Bool → Act → Prop) : Nat → Array Bool → Act → Prop
  | 0, listed, a => L listed a
  | f + 1, listed, a => Region.ready md ops listed ≠ [] ∧ ∀ i ∈ Region.ready md ops listed, i < n ∧ qOp P ops C i (HeadQ P md ops C n L f (listed.setIfInBounds i true)) a
theorem any_of_headQ {n g : Nat} {L : Array Bool → Act → Prop} {Q' : Exit → Act → World → Prop} (hL : ∀ listed a w, C w → L listed a → wpAny P md ops Q' g listed a w) :
    ∀ (f : Nat) (listed : Array Bool) (a : Act) (w : World), C w → HeadQ P md ops C n L f listed a → wpAny P md ops Q' (f + g) listed a w
  | 0, listed, a, w, hw, h => by rw [Nat.zero_add]; exact hL _ _ _ hw h
  | f + 1, listed, a, w, hw, h => by
    rw [show f + 1 + g = (f + g) + 1 by omega]
    exact ⟨fun h0 => absurd h0 h.1, fun i hi => wpOp_of_qOp hw (fun a' w' hw' h' => any_of_headQ hL f _ a' w' hw' h') (h.2 i hi).2⟩
theorem headQ_first {n i : Nat} {oi : Oper} {v : Value} {L : Array Bool → Act → Prop} (hi : ops[i]? = some oi) (hsel : ∀ (j : Nat) (o : Oper) cs b, ops[j]? = some o → o.op ≠ .select cs b)
    (hs : Region.sinkB md ops n = true) (hc : Region.chainB md ops n = true) (hn : n < ops.size) (hin : i < n) (hdone : ∀ listed a, L listed a → ∀ j ∈ Region.ready md ops listed, n ≤ j) :
    ∀ (f : Nat) (listed : Array Bool) (a : Act), HeadInv md ops n listed →
      (∀ j oj, ops[j]? = some oj → j ≠ i → listed.getD j true = false → (∀ e ∈ oj.after, Region.binds md e = true → e.on ≠ i) → oi.apart ops oj = true) →
      i ∈ Region.ready md ops listed → YieldsIn P ops C oi v a →
      HeadQ P md ops C n L f (listed.setIfInBounds i true) (a.put oi.dst v) → HeadQ P md ops C n L (f + 1) listed a := by
  intro f
  induction f with
  | zero =>
    intro listed a inv _ hr hy H
    have hun := (mem_ready.1 hr).1
    refine ⟨fun h => (by rw [h] at hr; cases hr), fun j hj => ?_⟩
    have hjn : j < n := by
      rcases Nat.lt_or_ge j n with h | h
      · exact h
      · exact absurd hj (tail_waits hs hc hn inv _ i rfl hin hun j h)
    refine ⟨hjn, ?_⟩
    by_cases hji : j = i
    · subst hji; exact hy.qOp hi H
    · have := hdone _ _ H j (ready_mono hj hji)
      omega
  | succ f ih =>
    intro listed a inv hfree hr hy H
    have hun := (mem_ready.1 hr).1
    refine ⟨fun h => (by rw [h] at hr; cases hr), fun j hj => ?_⟩
    have hjn : j < n := by
      rcases Nat.lt_or_ge j n with h | h
      · exact h
      · exact absurd hj (tail_waits hs hc hn inv _ i rfl hin hun j h)
    refine ⟨hjn, ?_⟩
    by_cases hji : j = i
    · subst hji; exact hy.qOp hi H
    · have h1 := (H.2 j (ready_mono hj hji)).2
      obtain ⟨hjun, oj, hoj, hall⟩ := mem_ready.1 hj
      have hnot : ∀ e ∈ oj.after, Region.binds md e = true → e.on ≠ i := fun e he hb heq => by
        have h1 := hall e he hb
        rw [heq, getD_both hun] at h1
        cases h1
      have h2 := qOp_put hoj (hfree j oj hoj hji hjun hnot) (fun cs b => hsel i oi cs b hi) (fun cs b => hsel j oj cs b hoj) hy h1
      have hfree' : ∀ k ok, ops[k]? = some ok → k ≠ i → (listed.setIfInBounds j true).getD k true = false →
          (∀ e ∈ ok.after, Region.binds md e = true → e.on ≠ i) → oi.apart ops ok = true := fun k ok hk hki hun hno => by
        refine hfree k ok hk hki ?_ hno
        by_cases hjk : j = k
        · subst hjk; exact hjun
        · rw [getD_set_ne true hjk] at hun; exact hun
      refine qOp_mono (fun a' h3 => ih (listed.setIfInBounds j true) a' (inv.set hj hjn) hfree' (ready_mono hr (Ne.symm hji)) h3.1 ?_) h2
      rw [Array.setIfInBounds_comm _ _ hji]
      exact h3.2
theorem headQ_lex {n g : Nat} {Lq : Act → Prop} (hsel : Region.noSelect ops = true) (hs : Region.sinkB md ops n = true) (hc : Region.chainB md ops n = true) (hn : n < ops.size) :
    ∀ (l : List Oper) (k : Nat) (listed : Array Bool) (a : Act), (∀ j, j < l.length → l[j]? = ops[k + j]?) → k + l.length = n → HeadInv md ops n listed →
    Region.lexHead md ops g l.length k listed = true → wpQuiet P ops C Lq l a →
    HeadQ P md ops C n (fun listed' a' => Region.seqB md ops g n listed' = true ∧ Lq a') l.length listed a
  | [], k, listed, a, _, hk, _, hB, h => by
    have : k = n := by simpa using hk
    subst this
    exact ⟨by simpa [Region.lexHead] using hB, h⟩
  | o :: l, k, listed, a, hl, hk, inv, hB, h => by
    have h0 : ops[k]? = some o := by simpa using (hl 0 (by simp)).symm
    simp only [List.length_cons, Region.lexHead, Bool.and_eq_true] at hB
    obtain ⟨⟨hr, hf⟩, hB'⟩ := hB
    have hkn : k < n := by simp only [List.length_cons] at hk; omega
    have hr' : k ∈ Region.ready md ops listed := by simpa using hr
    have hst : qOp P ops C k (wpQuiet P ops C Lq l) a := by unfold qOp; simp only [h0]; exact h
    obtain ⟨v, hy, hK⟩ := yieldsIn_of_qOp h0 hst
    exact headQ_first h0 (Region.noSelect_spec hsel) hs hc hn hkn (fun listed' a' hL => seqB_ready hL.1) l.length listed a inv (Region.free_spec h0 hf) hr' hy
      (headQ_lex hsel hs hc hn l (k + 1) _ _ (fun j hj => by have := hl (j + 1) (by simp; omega); simpa [Nat.add_assoc, Nat.add_comm 1 j] using this) (by simp only [List.length_cons] at hk; omega) (inv.set hr' hkn) hB' hK)
theorem any_quiet_tail {Q : Exit → Act → World → Prop} {a : Act} {w : World} {l : List Oper} (n : Nat) (hB : Region.lexTailB .any l.toArray n = true) (hC : C { w with drawn := w.drawn + 1 })
    (h : wpQuiet P l.toArray C (fun a' => ∀ w', C w' → wpList P l.toArray Q (l.drop n) a' w') (l.take n) a) : wpAny P .any l.toArray Q l.toArray.size (Array.replicate l.toArray.size false) a { w with drawn := w.drawn + 1 } := by
  simp only [Region.lexTailB, Bool.and_eq_true, decide_eq_true_eq] at hB
  obtain ⟨⟨⟨⟨hsel, hn⟩, hs⟩, hc⟩, hlex⟩ := hB
  have hn' : n < l.length := by simpa using hn
  have htl : (l.take n).length = n := by simp; omega
  have hdl : (l.drop n).length = l.toArray.size - n := by simp
  have inv0 : HeadInv .any l.toArray n (Array.replicate l.toArray.size false) :=
    ⟨by simp, fun j oj _ hl => (by rw [getD_replicate_false] at hl; cases hl), fun t _ ht => getD_in (by simpa using ht) (getD_replicate_false _ _)⟩
  have H := headQ_lex (md := .any) (g := l.toArray.size - n) hsel hs hc hn (l.take n) 0 _ a (fun j hj => by
    have hj' : j < n := by rw [htl] at hj; exact hj
    simp [hj']) (by simpa using htl) inv0 (by rw [htl]; exact hlex) h
  have := any_of_headQ (Q' := Q) (g := l.toArray.size - n) (fun listed a' w' hw' hL => by
    have := wpAny_of_seq (md := .any) (Q' := Q) (l.drop n) n listed a' w' (fun j => by simp [List.getElem?_drop]) (by rw [hdl]; exact hL.1) (hL.2 w' hw')
    rwa [hdl] at this) _ _ _ _ hC H
  rw [htl, show n + (l.toArray.size - n) = l.toArray.size by omega] at this
  exact this
theorem wp_region_quiet_tail {id : Nat} {Q : Exit → Act → World → Prop} {a : Act} {w : World} {l : List Oper} (n : Nat) (hm : P.follows .mixedOrders = true) (hB : Region.lexTailB .any l.toArray n = true) (hC : C { w with drawn := w.drawn + 1 })
    (h : wpQuiet P l.toArray C (fun a' => ∀ w', C w' → wpList P l.toArray Q (l.drop n) a' w') (l.take n) a) : (Code.region id l.toArray true).wp P Q a w :=
  wp_region_any hm (any_quiet_tail n hB hC h)
end
theorem wpQuiet_weaken {P : Program} (ops : Array Oper) (C : World → Prop) (Q1 Q2 : Act → Prop) (hq : ∀ a, Q1 a → Q2 a) : ∀ (l : List Oper) (a : Act), wpQuiet P ops C Q1 l a → wpQuiet P ops C Q2 l a := by
  intro l
  induction l with
  | nil => intro a h; exact hq _ h
  | cons o l ih =>
    intro a h
    unfold wpQuiet at h ⊢
    split
    · rename_i hw
      rw [if_pos hw] at h
      exact Oper.quiet_mono ih h
    · rename_i hw
      rw [if_neg hw] at h
      exact ih _ h
open Go.Sort Go.RowKit in
/-- At the class 'blocks have been laid behind w, the tape has been asked': the head, then a tail in one order. -/
theorem wp_region_tail {P : Program} {id : Nat} {Q : Exit → Act → World → Prop} {a : Act} {w : World} {l : List Oper} (n : Nat) (hm : P.follows .mixedOrders = true) (hB : Region.lexTailB .any l.toArray n = true)
    (h : wpQuiet P l.toArray (fun w' => ∃ p : Regrown, w' = grow (redrawn w p.d) p.os) (fun a' => ∀ w', Below w.heap.size w w' → wpList P l.toArray Q (l.drop n) a' w') (l.take n) a) : (Code.region id l.toArray true).wp P Q a w := by
  refine wp_region_quiet_tail (C := fun w' => ∃ p : Regrown, w' = grow (redrawn w p.d) p.os) n hm hB ⟨⟨w.drawn + 1, #[]⟩, by rw [grow_empty]; rfl⟩ ?_
  exact wpQuiet_weaken _ _ _ _ (fun a' h' w' ⟨p, hp⟩ => h' w' (hp ▸ below_regrown w p.d p.os)) _ _ h
open Go.Sort Go.RowKit in
/-- The same without a tail. -/
theorem wp_region_calm {P : Program} {id : Nat} {Q : Exit → Act → World → Prop} {a : Act} {w : World} {l : List Oper} (hm : P.follows .mixedOrders = true) (hB : Region.lexB .any l.toArray = true)
    (h : wpQuiet P l.toArray (fun w' => ∃ p : Regrown, w' = grow (redrawn w p.d) p.os) (fun a' => ∀ w', Below w.heap.size w w' → Q .normal a' w') l a) : (Code.region id l.toArray true).wp P Q a w := by
  refine wp_region_quiet_below hm hB ?_
  exact wpQuiet_weaken _ _ _ _ (fun a' h' w' ⟨p, hp⟩ => h' w' (hp ▸ below_regrown w p.d p.os)) _ _ h
end Go.Proofs.YtajlkleoincoeacDoor

/- FRAMES AS ROWS OF TWELVE uint16: the values, the blocks that hold them, the walk's laws for whole rows; how an argument of that type is opened. Plain lemmas: no function of the program is named. -/
namespace Go.Proofs.YtajlkleoincoeacDoor
open Go.RowKit
def FC (f : Nat → Nat) : Array Value := #[.int .u16 (f 0), .int .u16 (f 1), .int .u16 (f 2), .int .u16 (f 3), .int .u16 (f 4), .int .u16 (f 5), .int .u16 (f 6), .int .u16 (f 7), .int .u16 (f 8), .int .u16 (f 9), .int .u16 (f 10), .int .u16 (f 11)]
theorem ret_bool {a b : Bool} (h : a = b) : Ending.returned (.bool a) = .returned (.bool b) := by rw [h]
theorem ret_int {k : IntKind} {a b : Int} (h : a = b) : Ending.returned (.int k a) = .returned (.int k b) := by rw [h]
theorem FC_size (f : Nat → Nat) : (FC f).size = 12 := rfl
theorem lt12 {k : Nat} (h : k < 12) : k = 0 ∨ k = 1 ∨ k = 2 ∨ k = 3 ∨ k = 4 ∨ k = 5 ∨ k = 6 ∨ k = 7 ∨ k = 8 ∨ k = 9 ∨ k = 10 ∨ k = 11 := by omega
theorem FC_get (f : Nat → Nat) {k : Nat} (h : k < 12) : (FC f)[k]? = some (.int .u16 (f k)) := by
  rcases lt12 h with rfl | rfl | rfl | rfl | rfl | rfl | rfl | rfl | rfl | rfl | rfl | rfl <;> rfl
theorem FC_ext {f g : Nat → Nat} (h : ∀ k, k < 12 → f k = g k) : FC f = FC g := by
  unfold FC
  rw [h 0 (by omega), h 1 (by omega), h 2 (by omega), h 3 (by omega), h 4 (by omega), h 5 (by omega), h 6 (by omega), h 7 (by omega), h 8 (by omega), h 9 (by omega), h 10 (by omega), h 11 (by omega)]
theorem FC_set (f : Nat → Nat) {k : Nat} (n : Nat) (h : k < 12) : (FC f).setIfInBounds k (.int .u16 n) = FC (upd f k n) := by
  rcases lt12 h with rfl | rfl | rfl | rfl | rfl | rfl | rfl | rfl | rfl | rfl | rfl | rfl <;> rfl
/-- Block g is a row of twelve uint16. -/
def Blk (w : World) (g : Nat) (t : TypeId) (f : Nat → Nat) : Prop := w.heap[g]? = some (.cells (FC f) t (0, 0))
theorem Blk.cell {w : World} {g : Nat} {t : TypeId} {f : Nat → Nat} (h : Blk w g t f) {k : Nat} (hk : k < 12) : w.cell? ⟨g, k, none⟩ = some (.int .u16 (f k)) := by
  rw [cell_of_row w g k _ t _ h, FC_get f hk]
theorem Blk.free {w : World} {g : Nat} {t : TypeId} {f : Nat → Nat} (h : Blk w g t f) (k : Nat) : w.frozen? ⟨g, k, none⟩ = false := frozen_of_row w g k _ t h
theorem Blk.set {w : World} {g : Nat} {t : TypeId} {f : Nat → Nat} (h : Blk w g t f) {k : Nat} (hk : k < 12) (n : Nat) : Blk (w.setCell ⟨g, k, none⟩ (.int .u16 n)) g t (upd f k n) := by
  unfold Blk; rw [← FC_set f n hk]; exact heap_setCell_same w g k _ t _ h
theorem Blk.other {w : World} {g : Nat} {t : TypeId} {f : Nat → Nat} (h : Blk w g t f) {a : Addr} (v : Value) (hn : g ≠ a.block) : Blk (w.setCell a v) g t f := by
  unfold Blk; rw [heap_setCell_other w a g v hn]; exact h
theorem Blk.alloc {w : World} {g : Nat} {t : TypeId} {f : Nat → Nat} (h : Blk w g t f) (o : Obj) : Blk (w.alloc o) g t f := by
  have hlt : g < w.heap.size := (Array.getElem?_eq_some_iff.1 h).1
  unfold Blk; rw [Below.heap_alloc w o g hlt]; exact h
theorem Blk.new (w : World) (t : TypeId) (f : Nat → Nat) : Blk (w.alloc (.cells (FC f) t)) w.heap.size t f := heap_alloc_new w _
theorem Blk.ext {w : World} {g : Nat} {t : TypeId} {f f' : Nat → Nat} (h : Blk w g t f) (hf : ∀ k, k < 12 → f k = f' k) : Blk w g t f' := by
  unfold Blk; rw [← FC_ext hf]; exact h
theorem Blk.below {B : Nat} {w w' : World} {g : Nat} {t : TypeId} {f : Nat → Nat} (h : Blk w g t f) (hb : Below B w w') (hg : g < B) : Blk w' g t f := by
  unfold Blk; rw [hb.block g hg]; exact h
theorem Blk.lt {w : World} {g : Nat} {t : TypeId} {f : Nat → Nat} (h : Blk w g t f) : g < w.heap.size := (Array.getElem?_eq_some_iff.1 h).1
theorem FC_zero : FC zeroF = #[.int .u16 0, .int .u16 0, .int .u16 0, .int .u16 0, .int .u16 0, .int .u16 0, .int .u16 0, .int .u16 0, .int .u16 0, .int .u16 0, .int .u16 0, .int .u16 0] := rfl


theorem FC_one (f : Nat → Nat) : ∀ v ∈ (FC f).toList, v.oneCell' = true := by
  intro v hv
  simp only [FC, List.mem_cons, List.not_mem_nil, or_false] at hv
  rcases hv with rfl | rfl | rfl | rfl | rfl | rfl | rfl | rfl | rfl | rfl | rfl | rfl <;> rfl
theorem Blk.setRow {w : World} {g : Nat} {t : TypeId} {f0 : Nat → Nat} (h : Blk w g t f0) (f : Nat → Nat) : Blk (w.setRow g (FC f)) g t f := setRow_heap w g _ _ t _ h
theorem Blk.setRowOther {w : World} {g g' : Nat} {t : TypeId} {f : Nat → Nat} (h : Blk w g t f) (cs : Array Value) (hn : g ≠ g') : Blk (w.setRow g' cs) g t f := by
  unfold Blk; rw [setRow_other w g' g cs hn]; exact h
section
variable {P : Program} {ops : Array Oper} {rest : List Oper} {o : Oper} {a : Act} {w : World} {Q : Exit → Act → World → Prop}
theorem wpList_load_fr (hgd : o.guard = none) (ty e : TypeId) (x : Operand) (ho : o.op = .load ty x) (g : Nat) (hx : a.eval x = .pointer (some ⟨g, 0, none⟩)) {t : TypeId} {f : Nat → Nat} (hb : Blk w g t f)
    (hu : P.underlying ty = some (.array 12 e)) (hi : (P.info? ty).map (·.size) = some 12) (h : wpList P ops Q rest (a.put o.dst (.agg (FC f))) w) : wpList P ops Q (o :: rest) a w :=
  wpList_load_row hgd ty x ho g hx t (FC f) (0, 0) (.array 12 e) hb hu rfl hi h
/-- The same under a guard that is met. -/
theorem wpList_load_frG (hw : Region.wanted o (yielded ops a.tmps) = true) (ty e : TypeId) (x : Operand) (ho : o.op = .load ty x) (g : Nat) (hx : a.eval x = .pointer (some ⟨g, 0, none⟩)) {t : TypeId} {f : Nat → Nat} (hb : Blk w g t f)
    (hu : P.underlying ty = some (.array 12 e)) (hi : (P.info? ty).map (·.size) = some 12) (h : wpList P ops Q rest (a.put o.dst (.agg (FC f))) w) : wpList P ops Q (o :: rest) a w :=
  wpList_step fun K hK => by
    rw [if_pos hw]
    exact wp_load_row ty x ho g hx t (FC f) (0, 0) (.array 12 e) hb hu rfl hi (hK _ _ h)
theorem run_storeVar_fr (w : World) (g : Nat) (t ty : TypeId) (f0 f : Nat → Nat) (hb : Blk w g t f0) (hi : (P.info? ty).map (·.size) = some 12) :
    (storeVar ty ⟨g, 0, none⟩ (.agg (FC f))).run P w = .ok () (w.setRow g (FC f)) := by
  have h1 := run_storeCells_at P g 0 t (FC f).toList 0 (FC f0) w hb (by simp [FC_size]) (FC_one f)
  cases hq : P.info? ty with
  | none => simp [hq] at hi
  | some i =>
    have hs : i.size = 12 := by simpa [hq] using hi
    have hcs : (Value.agg (FC f)).cells = FC f := rfl
    simp only [storeVar, Sem.run_bind, sizeOf, typeInfo, hcs, FC_size]
    simp [hq, hs, h1, FC_size]
    congr 1
theorem wpList_store_fr (hgd : o.guard = none) (ty : TypeId) (x y : Operand) (ho : o.op = .store ty x y) (g : Nat) (hx : a.eval x = .pointer (some ⟨g, 0, none⟩)) {t : TypeId} {f0 f : Nat → Nat} (hb : Blk w g t f0)
    (hy : a.eval y = .agg (FC f)) (hi : (P.info? ty).map (·.size) = some 12) (h : wpList P ops Q rest (a.put o.dst undef) (w.setRow g (FC f))) : wpList P ops Q (o :: rest) a w :=
  wpList_plain hgd fun K hK => by
    unfold Oper.wp execOp
    simp only [ho, hx, hy, Instr.storeAt, Instr.sureAddr, Sem.run_bind, Sem.run_pure, Result.andThen_ok, run_storeVar_fr w g t ty f0 f hb hi]
    exact hK _ _ h
end
theorem below_setRow {B g : Nat} {w0 w : World} (hb : Below B w0 w) (hBg : B ≤ g) (cs : Array Value) : Below B w0 (w.setRow g cs) :=
  hb.trans ⟨rfl, rfl, rfl, by simp [World.setRow], fun k hk => setRow_other w g k cs (by omega)⟩
theorem run_results_fr {P : Program} {fn : Func} {p : Tmp} {ty e : TypeId} (h : fn.results = #[.cell p ty]) {tmps : Array Value} {w : World} {g : Nat} {t : TypeId} {f : Nat → Nat}
    (hp : tmps.getD p undef = .pointer (some ⟨g, 0, none⟩)) (hb : Blk w g t f) (hu : P.underlying ty = some (.array 12 e)) (hi : (P.info? ty).map (·.size) = some 12) :
    (results fn tmps).run P w = .ok (.agg (FC f)) w := results_cell_row h tmps w g t (FC f) (0, 0) _ hp hb hu rfl hi
theorem bodyPost_ret_fr {P : Program} {fn : Func} {R : Ending → World → Prop} {a : Act} {w : World} {p : Tmp} {ty e : TypeId} (h : fn.results = #[.cell p ty]) {g : Nat} {t : TypeId} {f : Nat → Nat}
    (hp : a.tmps.getD p undef = .pointer (some ⟨g, 0, none⟩)) (hb : Blk w g t f) (hu : P.underlying ty = some (.array 12 e)) (hi : (P.info? ty).map (·.size) = some 12)
    (hd : a.defers = []) (hR : R (.returned (.agg (FC f))) w) : bodyPost P fn R .ret a w := bodyPost_ret (run_results_fr h hp hb hu hi) hd hR
theorem bodyPost_ret_fr2 {P : Program} {fn : Func} {R : Ending → World → Prop} {a : Act} {w : World} {p u : Tmp} {ty e : TypeId} (h : fn.results = #[.cell p ty, .tmp u]) {g : Nat} {t : TypeId} {f : Nat → Nat}
    (hp : a.tmps.getD p undef = .pointer (some ⟨g, 0, none⟩)) (hb : Blk w g t f) (hu : P.underlying ty = some (.array 12 e)) (hi : (P.info? ty).map (·.size) = some 12)
    (hd : a.defers = []) (hR : R (.returned (.tuple #[.agg (FC f), a.tmps.getD u undef])) w) : bodyPost P fn R .ret a w := by
  refine bodyPost_ret ?_ hd hR
  rw [results_cell_tmp h, hp]
  simp only [asAddr, Sem.run_pure, Result.andThen_ok, run_loadVar_row w g t ty (FC f) (0, 0) _ hb hu rfl hi]

theorem not_testBit {b : Nat} (hb : b < 65536) (i : Nat) : (65535 - b).testBit i = (decide (i < 16) && !b.testBit i) := by
  have := Nat.testBit_two_pow_sub_succ (n := 16) (x := b) hb i
  rw [show 2 ^ 16 - (b + 1) = 65535 - b by omega] at this
  exact this
theorem clr_or {a x : Nat} (ha : a < 65536) (hx : x < 16) : (a &&& (65535 - 2 ^ x)) ||| 2 ^ x = a ||| 2 ^ x := by
  apply Nat.eq_of_testBit_eq
  intro i
  rw [Nat.testBit_or, Nat.testBit_and, not_testBit (Nat.pow_lt_pow_right (by decide) hx), Nat.testBit_or, Nat.testBit_two_pow]
  by_cases hi : i < 16
  · simp only [hi]
    by_cases e : x = i <;> simp [e]
  · have h1 : a.testBit i = false := Nat.testBit_lt_two_pow (Nat.lt_of_lt_of_le ha (Nat.pow_le_pow_right (n := 2) (i := 16) (by decide) (by omega)))
    simp [h1]
theorem u16_wrap_nat {n : Nat} (h : n < 65536) : IntKind.u16.wrap (n : Int) = n := by rw [IntKind.wrap_u16]; omega
theorem pow_lt_16 {x : Nat} (h : x < 16) : 2 ^ x < 65536 := Nat.pow_lt_pow_right (by decide) h
theorem cast_pow (x : Nat) : ((2 : Int) ^ x) = ((2 ^ x : Nat) : Int) := by simp
theorem u16_wrap_pow {x : Nat} (h : x < 16) : IntKind.u16.wrap ((2 : Int) ^ x) = ((2 ^ x : Nat) : Int) := by
  rw [cast_pow, u16_wrap_nat (pow_lt_16 h)]
theorem u16_or_pow {a x : Nat} (ha : a < 65536) (hx : x < 16) : bits .or .u16 (a : Int) (IntKind.u16.wrap ((2 : Int) ^ x)) = ((a ||| 2 ^ x : Nat) : Int) := by
  rw [u16_wrap_pow hx, u16_or_nat a _ ha (pow_lt_16 hx)]
theorem u16_clr_pow {a x : Nat} (ha : a < 65536) (hx : x < 16) : bits .andNot .u16 (a : Int) (IntKind.u16.wrap ((2 : Int) ^ x)) = ((a &&& (65535 - 2 ^ x) : Nat) : Int) := by
  rw [u16_wrap_pow hx, u16_andNot_nat a _ ha (pow_lt_16 hx)]
theorem tmod_bit (a x : Nat) : ((((a : Int) / 2 ^ x).tmod 2) == 1) = a.testBit x := by
  rw [cast_pow, ← Int.natCast_ediv, Int.tmod_eq_emod_of_nonneg (Int.natCast_nonneg _), Nat.testBit_eq_decide_div_mod_eq]
  have : (((a / 2 ^ x : Nat) : Int) % 2 == 1) = decide (((a / 2 ^ x : Nat) : Int) % 2 = 1) := rfl
  rw [this]
  congr 1
  apply propext
  omega
section
variable {P : Program}
theorem run_eqItems_fr (w : World) (d : Nat) (f g : Nat → Nat) {e : TypeId} (hp : P.plainKey e = true) (hu : P.underlying e = some (.int .u16)) :
    ∀ is : List Nat, (∀ i ∈ is, i < 12) → (Op.eqItems (d + 1) e 1 (FC f) (FC g) is).run P w = .ok (is.all fun i => f i == g i) w
  | [], _ => rfl
  | i :: is, h => by
    have hi : i < 12 := h i (by simp)
    have h1 := run_part_plain (P := P) w hp (xs := FC f) (off := i * 1) (by rw [Nat.mul_one]; exact FC_get f hi)
    have h2 := run_part_plain (P := P) w hp (xs := FC g) (off := i * 1) (by rw [Nat.mul_one]; exact FC_get g hi)
    have ih := run_eqItems_fr w d f g hp hu is (fun j hj => h j (by simp [hj]))
    simp only [Op.eqItems, Sem.run_bind, h1, h2, Result.andThen_ok, run_equalIn_int w d e .u16 .u16 _ _ hu]
    by_cases hfg : f i = g i
    · have hb : (((f i : Int) == (g i : Int))) = true := by simp [hfg]
      simp only [hb, Bool.not_true, Bool.false_eq_true, if_false, ih, List.all_cons]
      simp [hfg]
    · have hb : (((f i : Int) == (g i : Int))) = false := by simp; omega
      simp only [hb, Bool.not_false, if_true, Sem.run_pure, List.all_cons]
      simp [hfg]
theorem run_equal_fr (w : World) (f g : Nat → Nat) {t e : TypeId} {i : TypeInfo} (ht : P.underlying t = some (.array 12 e)) (hp : P.plainKey e = true) (hu : P.underlying e = some (.int .u16)) (hi : P.info? e = some i) (hc : P.cellsOf e = 1) :
    (Op.equal t (.agg (FC f)) (.agg (FC g))).run P w = .ok (eqF f g) w := by
  unfold Op.equal Op.maxDepth
  rw [run_equalIn_array w 9999 _ _ ht hi, hc]
  exact run_eqItems_fr w 9998 f g hp hu _ (by simp)
/-- Go's '==' of two frames. -/
theorem run_eql_fr (w : World) (f g : Nat → Nat) {t e : TypeId} {i : TypeInfo} (ht : P.underlying t = some (.array 12 e)) (hp : P.plainKey e = true) (hu : P.underlying e = some (.int .u16)) (hi : P.info? e = some i) (hc : P.cellsOf e = 1) :
    (binOp .eql t (.agg (FC f)) (.agg (FC g))).run P w = .ok (.bool (eqF f g)) w := by
  simp only [binOp]
  simp [run_equal_fr w f g ht hp hu hi hc]
theorem run_neq_fr (w : World) (f g : Nat → Nat) {t e : TypeId} {i : TypeInfo} (ht : P.underlying t = some (.array 12 e)) (hp : P.plainKey e = true) (hu : P.underlying e = some (.int .u16)) (hi : P.info? e = some i) (hc : P.cellsOf e = 1) :
    (binOp .neq t (.agg (FC f)) (.agg (FC g))).run P w = .ok (.bool (!eqF f g)) w := by
  simp only [binOp]
  simp [run_equal_fr w f g ht hp hu hi hc]
theorem run_index_fr (w : World) (g : Nat → Nat) {k : Nat} (hk : k < 12) {t e : TypeId} {i : TypeInfo} (ht : P.underlying t = some (.array 12 e)) (hp : P.plainKey e = true) (hi : P.info? e = some i) (hc : P.cellsOf e = 1) :
    (Instr.index t (.agg (FC g)) (.int .i64 (k : Int))).run P w = .ok (.int .u16 (g k)) w := by
  have h1 := run_part_plain (P := P) w hp (xs := FC g) (off := k * 1) (by rw [Nat.mul_one]; exact FC_get g hk)
  have hs := run_sizeOf w hi
  rw [hc] at hs
  simp only [Instr.index, asIntOf, Sem.run_bind, Sem.run_pure, Result.andThen_ok, run_underlying ht]
  rw [if_pos (by omega)]
  simp only [Sem.run_bind, hs, Result.andThen_ok, Int.toNat_natCast, h1]
open Go.Sort in
/-- A whole row is loaded in a region that draws its order (Derived/Lib/QuietBelow). -/
theorem wpQuiet_load_fr {ops : Array Oper} {w : World} {Q : Act → Prop} {rest : List Oper} {o : Oper} {a : Act} (hgd : o.guard = none) (ty e : TypeId) (x : Operand) (ho : o.op = .load ty x) (g : Nat) (hx : a.eval x = .pointer (some ⟨g, 0, none⟩))
    {t : TypeId} {f : Nat → Nat} (hb : Blk w g t f) (hu : P.underlying ty = some (.array 12 e)) (hi : (P.info? ty).map (·.size) = some 12)
    (h : wpQuiet P ops (fun w' => ∃ p : Regrown, w' = grow (redrawn w p.d) p.os) Q rest (a.put o.dst (.agg (FC f)))) : wpQuiet P ops (fun w' => ∃ p : Regrown, w' = grow (redrawn w p.d) p.os) Q (o :: rest) a := by
  unfold wpQuiet
  rw [if_pos (by simp [Region.wanted, hgd])]
  refine ⟨_, ?_, h⟩
  rintro w' ⟨p, rfl⟩
  have hb' : Blk (grow (redrawn w p.d) p.os) g t f := hb.below (below_regrown w p.d p.os) hb.lt
  unfold Oper.quietAt execOp
  simp only [ho, hx, Instr.loadAt, Instr.sureAddr, Sem.run_bind, Sem.run_pure, Result.andThen_ok, run_loadVar_row _ g t ty (FC f) (0, 0) _ hb' hu rfl hi]
  exact ⟨rfl, rfl⟩
end
/-- Block g is a row of the cells cs (a struct's fields, say). -/
def Row (w : World) (g : Nat) (t : TypeId) (cs : Array Value) : Prop := w.heap[g]? = some (.cells cs t (0, 0))
theorem Row.lt {w : World} {g : Nat} {t : TypeId} {cs : Array Value} (h : Row w g t cs) : g < w.heap.size := (Array.getElem?_eq_some_iff.1 h).1
theorem Row.new (w : World) (t : TypeId) (cs : Array Value) : Row (w.alloc (.cells cs t)) w.heap.size t cs := heap_alloc_new w _
theorem Row.alloc {w : World} {g : Nat} {t : TypeId} {cs : Array Value} (h : Row w g t cs) (o : Obj) : Row (w.alloc o) g t cs := by
  unfold Row; rw [Below.heap_alloc w o g h.lt]; exact h
theorem Row.below {B : Nat} {w w' : World} {g : Nat} {t : TypeId} {cs : Array Value} (h : Row w g t cs) (hb : Below B w w') (hg : g < B) : Row w' g t cs := by
  unfold Row; rw [hb.block g hg]; exact h
theorem Row.other {w : World} {g : Nat} {t : TypeId} {cs : Array Value} (h : Row w g t cs) {a : Addr} (v : Value) (hn : g ≠ a.block) : Row (w.setCell a v) g t cs := by
  unfold Row; rw [heap_setCell_other w a g v hn]; exact h
theorem Row.set {w : World} {g : Nat} {t : TypeId} {cs : Array Value} (h : Row w g t cs) (k : Nat) (v : Value) : Row (w.setCell ⟨g, k, none⟩ v) g t (cs.setIfInBounds k v) := heap_setCell_same w g k _ t _ h
theorem Row.setRow {w : World} {g : Nat} {t : TypeId} {cs : Array Value} (h : Row w g t cs) (cs' : Array Value) : Row (w.setRow g cs') g t cs' := setRow_heap w g _ _ t _ h
theorem Row.setRowOther {w : World} {g g' : Nat} {t : TypeId} {cs : Array Value} (h : Row w g t cs) (cs' : Array Value) (hn : g ≠ g') : Row (w.setRow g' cs') g t cs := by
  unfold Row; rw [setRow_other w g' g cs' hn]; exact h
theorem Row.cell {w : World} {g : Nat} {t : TypeId} {cs : Array Value} (h : Row w g t cs) (k : Nat) : w.cell? ⟨g, k, none⟩ = cs[k]? := cell_of_row w g k _ t _ h
theorem Row.free {w : World} {g : Nat} {t : TypeId} {cs : Array Value} (h : Row w g t cs) (k : Nat) : w.frozen? ⟨g, k, none⟩ = false := frozen_of_row w g k _ t h
theorem Row.drewN {w : World} {g : Nat} {t : TypeId} {cs : Array Value} (h : Row w g t cs) (n : Nat) : Row (w.drewN n) g t cs := h
section
variable {P : Program} {ops : Array Oper} {rest : List Oper} {o : Oper} {a : Act} {w : World} {Q : Exit → Act → World → Prop}
theorem run_storeVar_row (w : World) (g : Nat) (t ty : TypeId) (cs0 cs : Array Value) (hb : Row w g t cs0) (hs : cs.size = cs0.size) (h1 : ∀ v ∈ cs.toList, v.oneCell' = true) (hi : (P.info? ty).map (·.size) = some cs.size) :
    (storeVar ty ⟨g, 0, none⟩ (.agg cs)).run P w = .ok () (w.setRow g cs) := by
  have h1 := run_storeCells_at P g 0 t cs.toList 0 cs0 w hb (by simp [hs]) h1
  cases hq : P.info? ty with
  | none => simp [hq] at hi
  | some i =>
    have hsz : i.size = cs.size := by simpa [hq] using hi
    have hcs : (Value.agg cs).cells = cs := rfl
    simp only [storeVar, Sem.run_bind, sizeOf, typeInfo, hcs]
    simp [hq, hsz, h1, hs]
    congr 1
    have : cs0.toList.drop cs0.size = [] := List.drop_eq_nil_of_le (by simp)
    rw [this]
    simp
/-- A struct, or an array, is stored whole. -/
theorem wpList_store_row (hgd : o.guard = none) (ty : TypeId) (x y : Operand) (ho : o.op = .store ty x y) (g : Nat) (hx : a.eval x = .pointer (some ⟨g, 0, none⟩)) {t : TypeId} {cs0 cs : Array Value} (hb : Row w g t cs0)
    (hy : a.eval y = .agg cs) (hs : cs.size = cs0.size) (h1 : ∀ v ∈ cs.toList, v.oneCell' = true) (hi : (P.info? ty).map (·.size) = some cs.size) (h : wpList P ops Q rest (a.put o.dst undef) (w.setRow g cs)) : wpList P ops Q (o :: rest) a w :=
  wpList_plain hgd fun K hK => by
    unfold Oper.wp execOp
    simp only [ho, hx, hy, Instr.storeAt, Instr.sureAddr, Sem.run_bind, Sem.run_pure, Result.andThen_ok, run_storeVar_row w g t ty cs0 cs hb hs h1 hi]
    exact hK _ _ h
theorem bodyPost_ret_row2 {fn : Func} {R : Ending → World → Prop} {p u : Tmp} {ty : TypeId} (h : fn.results = #[.cell p ty, .tmp u]) {g : Nat} {t : TypeId} {cs : Array Value} {d : TypeDesc}
    (hp : a.tmps.getD p undef = .pointer (some ⟨g, 0, none⟩)) (hb : Row w g t cs) (hu : P.underlying ty = some d) (hd' : (match d with | .struct _ | .array _ _ => true | _ => false) = true) (hi : (P.info? ty).map (·.size) = some cs.size)
    (hd : a.defers = []) (hR : R (.returned (.tuple #[.agg cs, a.tmps.getD u undef])) w) : bodyPost P fn R .ret a w := by
  refine bodyPost_ret ?_ hd hR
  rw [results_cell_tmp h, hp]
  simp only [asAddr, Sem.run_pure, Result.andThen_ok, run_loadVar_row w g t ty cs (0, 0) _ hb hu hd' hi]
theorem bodyPost_ret_row {fn : Func} {R : Ending → World → Prop} {p : Tmp} {ty : TypeId} (h : fn.results = #[.cell p ty]) {g : Nat} {t : TypeId} {cs : Array Value} {d : TypeDesc}
    (hp : a.tmps.getD p undef = .pointer (some ⟨g, 0, none⟩)) (hb : Row w g t cs) (hu : P.underlying ty = some d) (hd' : (match d with | .struct _ | .array _ _ => true | _ => false) = true) (hi : (P.info? ty).map (·.size) = some cs.size)
    (hd : a.defers = []) (hR : R (.returned (.agg cs)) w) : bodyPost P fn R .ret a w :=
  bodyPost_ret (results_cell_row h a.tmps w g t cs (0, 0) d hp hb hu hd' hi) hd hR
end
theorem setRow_new (w : World) (cs0 cs : Array Value) (t : TypeId) : (w.alloc (.cells cs0 t)).setRow w.heap.size cs = w.alloc (.cells cs t) := by
  have hh : ((w.alloc (.cells cs0 t)).setRow w.heap.size cs).heap = (w.alloc (.cells cs t)).heap := by
    apply Array.ext_getElem?
    intro i
    by_cases hi : i = w.heap.size
    · subst hi
      rw [setRow_heap _ _ cs0 cs t (0, 0) (heap_alloc_new w _)]
      exact (heap_alloc_new w _).symm
    · rw [setRow_other _ _ _ _ hi]
      show (w.heap.push _)[i]? = (w.heap.push _)[i]?
      rw [Array.getElem?_push, Array.getElem?_push, if_neg hi, if_neg hi]
  show ({ (w.alloc (.cells cs0 t)).setRow w.heap.size cs with heap := ((w.alloc (.cells cs0 t)).setRow w.heap.size cs).heap } : World) = _
  rw [hh]
  rfl
/-- A frame is stored into the block that has just been laid. -/
theorem wpList_store_new {P : Program} {ops : Array Oper} {rest : List Oper} {o : Oper} {a : Act} {w : World} {Q : Exit → Act → World → Prop} (hgd : o.guard = none) (ty : TypeId) (x y : Operand) (ho : o.op = .store ty x y) {t : TypeId} {f0 f : Nat → Nat} (hx : a.eval x = .pointer (some ⟨w.heap.size, 0, none⟩))
    (hy : a.eval y = .agg (FC f)) (hi : (P.info? ty).map (·.size) = some 12) (h : wpList P ops Q rest (a.put o.dst undef) (w.alloc (.cells (FC f) t))) : wpList P ops Q (o :: rest) a (w.alloc (.cells (FC f0) t)) :=
  wpList_store_fr hgd ty x y ho _ hx (Blk.new w t f0) hy hi (by rw [setRow_new]; exact h)
open Go.Sort in
/-- A whole row is loaded in a region that draws its order. -/
theorem wpQuiet_load_row {P : Program} {ops : Array Oper} {w : World} {Q : Act → Prop} {rest : List Oper} {o : Oper} {a : Act} (hgd : o.guard = none) (ty : TypeId) (x : Operand) (ho : o.op = .load ty x) (g : Nat) (hx : a.eval x = .pointer (some ⟨g, 0, none⟩))
    {t : TypeId} {cs : Array Value} {d : TypeDesc} (hb : Row w g t cs) (hu : P.underlying ty = some d) (hd : (match d with | .struct _ | .array _ _ => true | _ => false) = true) (hi : (P.info? ty).map (·.size) = some cs.size)
    (h : wpQuiet P ops (fun w' => ∃ p : Regrown, w' = grow (redrawn w p.d) p.os) Q rest (a.put o.dst (.agg cs))) : wpQuiet P ops (fun w' => ∃ p : Regrown, w' = grow (redrawn w p.d) p.os) Q (o :: rest) a := by
  unfold wpQuiet
  rw [if_pos (by simp [Region.wanted, hgd])]
  refine ⟨_, ?_, h⟩
  rintro w' ⟨p, rfl⟩
  have hb' : Row (grow (redrawn w p.d) p.os) g t cs := hb.below (below_regrown w p.d p.os) hb.lt
  unfold Oper.quietAt execOp
  simp only [ho, hx, Instr.loadAt, Instr.sureAddr, Sem.run_bind, Sem.run_pure, Result.andThen_ok, run_loadVar_row _ g t ty cs (0, 0) d hb' hu hd hi]
  exact ⟨rfl, rfl⟩
theorem grown_below {S : Nat} {a w w' : World} (h : Below S a w) (k : Below w.heap.size w w') (hS : S ≤ w.heap.size) : Below S a w' := h.trans (k.mono hS)
theorem and1_bit {a : Nat} (ha : a < 65536) (x : Nat) : (bits .and .u16 ((a : Int) / 2 ^ x) 1 == 1) = a.testBit x := by
  have hlt : a / 2 ^ x < 65536 := Nat.lt_of_le_of_lt (Nat.div_le_self _ _) ha
  have h1 := u16_and_nat (a / 2 ^ x) 1 hlt (by omega)
  rw [cast_pow, ← Int.natCast_ediv]
  rw [show ((1 : Nat) : Int) = 1 from rfl] at h1
  rw [h1, Nat.and_one_is_mod, Nat.testBit_eq_decide_div_mod_eq]
  have : (((a / 2 ^ x % 2 : Nat) : Int) == 1) = decide (((a / 2 ^ x % 2 : Nat) : Int) = 1) := rfl
  rw [this]
  congr 1
  apply propext
  omega
section
variable {P : Program} {ops : Array Oper}
theorem run_index_tab (w : World) (T : TypeId) (s : ByteArray) (k : IntKind) (n : Nat) (hT : P.underlying T = some .string) (tab : Nat → Nat) (N : Nat) (hn : n < N)
    (htab : (List.range N).all (fun j => s[j]? == some (UInt8.ofNat (tab j))) = true) (ht : tab n < 256) : (Instr.index T (.string s) (.int k (n : Int))).run P w = .ok (.int .u8 (tab n)) w := by
  have h1 := List.all_eq_true.1 htab n (List.mem_range.2 hn)
  have h2 : s[n]? = some (UInt8.ofNat (tab n)) := by simpa using h1
  have h3 : (UInt8.ofNat (tab n)).toNat = tab n := by simp; omega
  simp only [Instr.index, asIntOf, Sem.run_bind, Sem.run_pure, Result.andThen_ok, run_underlying hT]
  rw [if_pos (by omega), Int.toNat_natCast, h2]
  simp only [Sem.run_pure, h3]
/-- A byte of a constant string, by a table. -/
theorem wpQuiet_index_tab {C : World → Prop} {Q : Act → Prop} {rest : List Oper} {o : Oper} {a : Act} (hgd : o.guard = none) (T : TypeId) (x i : Operand) (ho : o.op = .index T x i) {s : ByteArray} (hx : a.eval x = .string s)
    {k : IntKind} {z : Int} (hi : a.eval i = .int k z) {n : Nat} (hz : z = n) (hT : P.underlying T = some .string) (tab : Nat → Nat) (N : Nat) (hn : n < N)
    (htab : (List.range N).all (fun j => s[j]? == some (UInt8.ofNat (tab j))) = true) (ht : tab n < 256)
    (h : wpQuiet P ops C Q rest (a.put o.dst (.int .u8 (tab n)))) : wpQuiet P ops C Q (o :: rest) a := by
  subst hz
  unfold wpQuiet
  rw [if_pos (by simp [Region.wanted, hgd])]
  refine ⟨_, ?_, h⟩
  intro w' _
  unfold Oper.quietAt execOp
  simp only [ho, hx, hi, Sem.run_bind, run_index_tab w' T s k n hT tab N hn htab ht, Result.andThen_ok, Sem.run_pure]
  exact ⟨rfl, rfl⟩
theorem wpList_index_tab {w : World} {Q : Exit → Act → World → Prop} {rest : List Oper} {o : Oper} {a : Act} (hgd : o.guard = none) (T : TypeId) (x i : Operand) (ho : o.op = .index T x i) {s : ByteArray} (hx : a.eval x = .string s)
    {k : IntKind} {z : Int} (hi : a.eval i = .int k z) {n : Nat} (hz : z = n) (hT : P.underlying T = some .string) (tab : Nat → Nat) (N : Nat) (hn : n < N)
    (htab : (List.range N).all (fun j => s[j]? == some (UInt8.ofNat (tab j))) = true) (ht : tab n < 256)
    (h : wpList P ops Q rest (a.put o.dst (.int .u8 (tab n))) w) : wpList P ops Q (o :: rest) a w := by
  subst hz
  refine wpList_plain hgd fun K hK => ?_
  unfold Oper.wp execOp
  simp only [ho, hx, hi, Sem.run_bind, run_index_tab _ T s k n hT tab N hn htab ht, Result.andThen_ok, Sem.run_pure]
  exact hK _ _ h
end
/-- One block may have been written; all other blocks are as they were. -/
structure Wrote (B : Nat) (w w' : World) : Prop where
  os : w'.os = w.os
  tape : w'.tape = w.tape
  output : w'.output = w.output
  size : w.heap.size ≤ w'.heap.size
  block : ∀ k, k < w.heap.size → k ≠ B → w'.heap[k]? = w.heap[k]?
theorem Wrote.refl (B : Nat) (w : World) : Wrote B w w := ⟨rfl, rfl, rfl, Nat.le_refl _, fun _ _ _ => rfl⟩
theorem Wrote.trans {B : Nat} {a b c : World} (h : Wrote B a b) (k : Wrote B b c) : Wrote B a c :=
  ⟨k.os.trans h.os, k.tape.trans h.tape, k.output.trans h.output, Nat.le_trans h.size k.size, fun i hi hn => (k.block i (Nat.lt_of_lt_of_le hi h.size) hn).trans (h.block i hi hn)⟩
theorem Wrote.drew {B : Nat} {a w : World} (h : Wrote B a w) : Wrote B a w.drew := ⟨h.os, h.tape, h.output, h.size, h.block⟩
theorem Wrote.setCell {B : Nat} {a w : World} (h : Wrote B a w) {p : Addr} (hp : B = p.block) (u : Value) : Wrote B a (w.setCell p u) :=
  h.trans ⟨rfl, rfl, rfl, by simp [World.setCell], fun k _ hn => Below.heap_setCell _ _ _ _ (by omega)⟩
theorem Wrote.below {S B : Nat} {a w w' : World} (h : Below S a w) (k : Wrote B w w') (hB : S ≤ B) (hS : S ≤ w.heap.size) : Below S a w' :=
  h.trans ⟨k.os, k.tape, k.output, k.size, fun i hi => k.block i (by omega) (by omega)⟩
theorem Wrote.blk {B : Nat} {w w' : World} (k : Wrote B w w') {g : Nat} {t : TypeId} {f : Nat → Nat} (h : Blk w g t f) (hn : g ≠ B) : Blk w' g t f := by
  unfold Blk; rw [k.block g h.lt hn]; exact h
theorem Blk.drew {w : World} {g : Nat} {t : TypeId} {f : Nat → Nat} (h : Blk w g t f) : Blk w.drew g t f := h
theorem Blk.drewN {w : World} {g : Nat} {t : TypeId} {f : Nat → Nat} (h : Blk w g t f) (n : Nat) : Blk (w.drewN n) g t f := h
theorem below_drewN {B : Nat} {a w : World} (h : Below B a w) (n : Nat) : Below B a (w.drewN n) := ⟨h.os, h.tape, h.output, h.size, h.block⟩
section
open Go.ChangeShapes Go.WideShapes
variable {H : Type} {enc : TypeId × Value → H} {P : Program} {w : World} {base : Nat} {spare : Nat → Bool} {held : Bool}
/-- The row's numbers. -/
def rowOf (cs : Array Value) (k : Nat) : Nat := match cs[k]? with | some (.int _ n) => n.toNat | _ => 0
/-- An argument of type [12]uint16 (or a named one), opened. -/
theorem open_fr {r : Reach} {b0 : Nat} {t e : TypeId} {v : Value} {d : DataW H} {p : List MemPlace} (ht : P.underlying t = some (.array 12 e)) (he : P.underlying e = some (.int .u16)) (hce : P.cellsOf e = 1) (hct : P.cellsOf t = 12)
    (hv : Value.okWide P w r b0 t v) (h : DataW.Trod enc P w base spare held t v d p) : ∃ f : Nat → Nat, v = .agg (FC f) ∧ ∀ k, f k < 65536 := by
  unfold Value.okWide at hv
  rw [ht] at hv
  obtain ⟨cs, rfl, hsz, _⟩ := hv
  rw [hct] at hsz
  obtain ⟨fuel, hf⟩ := h
  obtain ⟨xs, m, _, _, _, hxl, hx⟩ := DataW.trod_array ht hf
  rw [hce] at hx
  have hc : ∀ i, i < 12 → ∃ n : Nat, n < 65536 ∧ cs[i]? = some (.int .u16 n) := by
    intro i hi
    have h1 := hx i hi
    rw [List.getElem?_eq_getElem (by omega)] at h1
    obtain ⟨n, hn, _, hw⟩ := DataW.trod_int he h1
    have hb := bounds_u16 hw
    obtain ⟨k, rfl⟩ := Int.eq_ofNat_of_zero_le hb.1
    refine ⟨k, by omega, ?_⟩
    have hh : (((Value.agg cs).cells.toList.drop (i * 1)).take 1)[0]? = some (.int .u16 (k : Int)) := by rw [hn]; rfl
    simpa [Value.cells, List.getElem?_take, List.getElem?_drop] using hh
  refine ⟨rowOf cs, ?_, ?_⟩
  · congr 1
    apply Array.ext_getElem?
    intro i
    by_cases hi : i < 12
    · obtain ⟨n, _, hn⟩ := hc i hi
      rw [FC_get _ hi, hn]
      simp [rowOf, hn]
    · rw [Array.getElem?_eq_none (by omega), Array.getElem?_eq_none (by rw [FC_size]; omega)]
  · intro k
    by_cases hk : k < 12
    · obtain ⟨n, hn, he⟩ := hc k hk
      simp [rowOf, he]; exact hn
    · have : cs[k]? = none := Array.getElem?_eq_none (by omega)
      simp [rowOf, this]
end
end Go.Proofs.YtajlkleoincoeacDoor

/- MORPHS. impl: Frame.first. -/
namespace Go.Proofs.YtajlkleoincoeacDoor
set_option maxRecDepth 100000
open Go.RowKit
set_option linter.unusedVariables false
set_option linter.unusedSimpArgs false
theorem u16_and_pow {a x : Nat} (ha : a < 65536) (hx : x < 16) : bits .and .u16 (a : Int) (IntKind.u16.wrap ((2 : Int) ^ x)) = ((a &&& 2 ^ x : Nat) : Int) := by
  rw [u16_wrap_pow hx, u16_and_nat a _ ha (pow_lt_16 hx)]
/-- One bit of a row, and its worth. -/
theorem bit_div {a x : Nat} : (((a &&& 2 ^ x : Nat) : Int)) / 2 ^ x = ((if a.testBit x then 1 else 0 : Nat) : Int) := by
  rw [and_pow, cast_pow, ← Int.natCast_ediv]
  split
  · rw [Nat.div_self (Nat.two_pow_pos x)]
  · simp
set_option maxHeartbeats 1000000 in
theorem first_any (u : Nat → Nat) (n : Nat) (hu : ∀ k, u k < 65536) (hn : n ≤ 1000) (w : World) :
    Calls Tryd.prog 114 #[.agg (FC u), .int .i64 n] w fun e w' => e = .returned (.agg (FC (mk u n 144))) ∧ Below w.heap.size w w' := by
  obtain ⟨i0, hi0⟩ : ∃ i, Tryd.prog.info? 24 = some i := ⟨_, rfl⟩
  have b1 := ((Blk.new w 26 u).alloc (.cells (FC zeroF) 26)).alloc (.cells (FC zeroF) 26)
  have b2 := (Blk.new (w.alloc (.cells (FC u) 26)) 26 zeroF).alloc (.cells (FC zeroF) 26)
  have b3 := Blk.new ((w.alloc (.cells (FC u) 26)).alloc (.cells (FC zeroF) 26)) 26 zeroF
  rw [World.size_alloc] at b2
  rw [World.size_alloc, World.size_alloc] at b3
  have h0 := (((Below.refl w.heap.size w).alloc (Nat.le_refl _) (.cells (FC u) 26)).alloc (by simp) (.cells (FC zeroF) 26)).alloc (by simp; omega) (.cells (FC zeroF) 26)
  rw [FC_zero] at b1 b2 b3 h0
  go_enter Tryd.func114, Tryd.ntmps114
  go_wp2_with (refine wpList_load_fr rfl 26 24 _ rfl _ rfl b1 Tryd.underlying26 (by kernel_rfl) ?_)
  clear b1
  generalize (((w.alloc (.cells (FC u) 26)).alloc _).alloc _) = w1 at *
  go_loopw [1, 11] (fun c i wr => ∃ y : Nat, y ≤ 12 ∧ i = .int .i64 y ∧ c = .int .i64 ((n - rk u (12 * y) : Nat) : Int) ∧ Blk wr (w.heap.size + 1 + 1) 26 (mk u n (12 * y)) ∧ Blk wr (w.heap.size + 1) 26 zeroF ∧ Below w.heap.size w wr) (fun _ i _ => 12 - (intOf i).toNat)
  case atStart => exact ⟨0, by omega, rfl, rfl, b3, b2, h0⟩
  case round =>
    clear b2 b3 h0
    obtain ⟨y, hy, rfl, rfl, b3, b2, hb⟩ := hrel
    by_cases hlt : y < 12
    · have ix := fun w => run_index_fr (P := Tryd.prog) w u hlt Tryd.underlying26 (by kernel_rfl) hi0 (by kernel_rfl)
      have hd12 : decide ((y : Int) < 12) = true := decide_eq_true (by omega)
      clear hi0
      go_wp2
      obtain ⟨wo, rfl⟩ : ∃ wo : World, wo = wr := ⟨_, rfl⟩
      go_loopw [1, 8] (fun c i wr => ∃ q : Nat, q ≤ 12 ∧ i = .int .i64 q ∧ c = .int .i64 ((n - rk u (12 * y + q) : Nat) : Int) ∧ Blk wr (w.heap.size + 1 + 1) 26 (mk u n (12 * y + q)) ∧ Blk wr (w.heap.size + 1) 26 zeroF ∧ Below w.heap.size w wr) (fun _ i _ => 12 - (intOf i).toNat)
      case atStart => exact ⟨0, by omega, rfl, rfl, b3, b2, hb⟩
      case round =>
        clear b2 b3 hb
        obtain ⟨q, hq, rfl, rfl, b3, b2, hb⟩ := hrel
        by_cases hlq : q < 12
        · by_cases hr : rk u (12 * y + q) < n
          · have hst := mk_row hlq hr
            have hrk := rk_row (u := u) (y := y) hlq
            have hop := u16_and_pow (a := u y) (x := q) (hu y) (by omega)
            have hdv := bit_div (a := u y) (x := q)
            have hd16 : u y &&& 2 ^ q < 65536 := Nat.lt_of_le_of_lt Nat.and_le_left (hu y)
            have he1 : (if (u y).testBit q then 1 else 0 : Nat) ≤ 1 := by split <;> omega
            have c3 := b3.cell hlt
            have f3 := b3.free y
            have hor := u16_or_nat (mk u n (12 * y + q) y) (u y &&& 2 ^ q) (Nat.lt_trans (mk_lt _ _ _ _) (by decide)) hd16
            have b3' := b3.set hlt (mk u n (12 * y + q) y ||| (u y &&& 2 ^ q))
            have b2' := b2.other (a := ⟨w.heap.size + 1 + 1, y, none⟩) (.int .u16 ((mk u n (12 * y + q) y ||| (u y &&& 2 ^ q) : Nat) : Int)) (by show w.heap.size + 1 ≠ w.heap.size + 1 + 1; omega)
            have hb' := hb.setCell (p := ⟨w.heap.size + 1 + 1, y, none⟩) (by show w.heap.size ≤ w.heap.size + 1 + 1; omega) (.int .u16 ((mk u n (12 * y + q) y ||| (u y &&& 2 ^ q) : Nat) : Int))
            have HST := Lib.hid hst
            generalize hev : (if (u y).testBit q then 1 else 0 : Nat) = ev at *
            have hcn : n - rk u (12 * y + (q + 1)) = n - rk u (12 * y + q) - ev := by rw [hrk]; omega
            have hc0 : 0 < n - rk u (12 * y + q) := by omega
            have hc1 : n - rk u (12 * y + q) ≤ 1000 := by omega
            have HCN := Lib.hid hcn
            have B3 := Lib.hid b3'
            have B2 := Lib.hid b2'
            have HB := Lib.hid hb'
            clear hst hrk hev hcn b3 b2 hb b3' b2' hb' hr
            generalize n - rk u (12 * y + q) = c at *
            generalize u y &&& 2 ^ q = d at *
            generalize mk u n (12 * y + q) y = m at *
            go_wp2
            go_roundw
            case rel =>
              go_light
              refine ⟨q + 1, by omega, by go_num, ?_, ?_, B2.out, HB.out⟩
              · rw [HCN.out]; congr 1; omega
              · rw [HST.out]; exact B3.out
            case measure => simp [intOf]; omega
          · have hs : mk u n (12 * (y + 1)) = mk u n (12 * y + q) := mk_stop_to (by omega) (by omega)
            have hm := rk_mono u (12 * y + q) (12 - q)
            rw [show 12 * y + q + (12 - q) = 12 * (y + 1) by omega] at hm
            have hc0 : n - rk u (12 * y + q) = 0 := by omega
            have hc1 : n - rk u (12 * (y + 1)) = 0 := by omega
            rw [← hs] at b3
            rw [hc0]
            have HC := Lib.hid hc1
            clear hs hm hc0 hc1 hr
            go_wp2
            go_roundw
            case rel =>
              go_light
              exact ⟨y + 1, by omega, by go_num, by rw [HC.out]; rfl, b3, b2, hb⟩
            case measure => simp [intOf]; omega
        · have hq12 : q = 12 := by omega
          subst hq12
          rw [show 12 * y + 12 = 12 * (y + 1) by omega] at b3
          have he : n - rk u (12 * y + 12) = n - rk u (12 * (y + 1)) := by rw [show 12 * y + 12 = 12 * (y + 1) by omega]
          rw [he]
          clear he
          go_wp2
          go_roundw
          case rel =>
            go_light
            exact ⟨y + 1, by omega, by go_num, rfl, b3, b2, hb⟩
          case measure => simp [intOf]; omega
    · have h12 : y = 12 := by omega
      subst h12
      go_wp2_with (first | (refine wpList_load_fr rfl 26 24 _ rfl _ rfl b3 Tryd.underlying26 (by kernel_rfl) ?_) | (refine wpList_store_fr rfl 26 _ _ rfl _ rfl b2 rfl (by kernel_rfl) ?_))
      refine bodyPost_ret_fr (p := 4) (ty := 26) (e := 24) rfl rfl (b2.setRow _) Tryd.underlying26 (by kernel_rfl) rfl ⟨rfl, below_setRow hb (by omega) _⟩
end Go.Proofs.YtajlkleoincoeacDoor
