/- A LOOP BODY OVER AN ITERATOR IS WALKED IN A ROUND'S FRAME. Under the fence that asks nothing, a region without 'defer' is carried out there as everywhere: so the plain walk's goals ('wpList', 'wpAny' and what stands upon them) serve in a round. No function of the program is named. -/
import Derived.Test.YtkcomhbmhgnhhaaQuiet
import Derived.RangeFuncNested
import Derived.RangeFuncBound
import Derived.RangeFuncCalls
import Derived.RangeFuncLeaves
import Derived.OrdersIn
import Derived.TacticsIn
import Derived.Deep.RegionHeld
namespace Go.Proofs.Ytkcomhbmhgnhhaa
/-- The fence that asks nothing, in a round of loop r. -/
abbrev RF (r : Nat) : Fence := Fence.wide.inRound r
def noDefer (o : Oper) : Bool := match o.op with | .defer _ => false | _ => true
theorem noDefer_spec {o : Oper} (h : noDefer o = true) (c : _) : o.op ≠ .defer c := by
  intro e; simp [noDefer, e] at h
section
variable {P : Program} {r n : Nat} {ops : Array Oper} {Q : Exit → Act → World → Prop} {a : Act} {w : World}
theorem uponIn_of_upon {o : Oper} {next : Act → World → Prop} {res : Result Next} (h : o.upon P a next Q res) : o.uponIn (RF r) n P a next Q res := by
  cases res with
  | ok x w' =>
    cases x with
    | value v => exact h
    | skip => exact h
    | defer d => exact h
    | enter f args =>
      refine ⟨fun hd => ?_, CallsIn.inRound r (callsIn_wide.2 h)⟩
      cases hd
    | row row args =>
      refine ⟨fun hd => ?_, fun c cs _ => ?_⟩
      · cases hd
      · obtain ⟨v, w2, q, s⟩ := h c cs
        exact ⟨v, w2, q, stepsIn_wide.2 s⟩
    | _ => exact h.elim
  | halt x w' =>
    cases x with
    | panic v => exact h
    | _ => exact h.elim
theorem opIn_of_op {o : Oper} {K : Act → World → Prop} (hd : noDefer o = true) (h : o.wp P a w K Q) : o.wpIn (RF r) n P a w K Q :=
  ⟨fun _ _ => trivial, by rw [Fence.inRound_round, Oper.semAt_some _ _ _ (noDefer_spec hd)]; exact uponIn_of_upon h⟩
theorem wpListIn_of_wpList (hQ : ¬ LetsOut Q) : ∀ (l : List Oper) (a : Act) (w : World), l.all noDefer = true → wpList P ops Q l a w → wpListIn (RF r) n P ops Q l a w
  | [], _, _, _, h => h
  | o :: rest, a, w, hd, h => by
    simp only [List.all_cons, Bool.and_eq_true] at hd
    unfold wpList at h
    unfold wpListIn
    split
    · rename_i hw
      rw [if_pos hw] at h
      rcases h with h | h
      · exact Oper.wpIn_mono (fun a' w' h' => wpListIn_of_wpList hQ rest a' w' hd.2 h') (opIn_of_op hd.1 h)
      · exact absurd h.2 hQ
    · rename_i hw
      rw [if_neg hw] at h
      exact ⟨fun _ _ => trivial, wpListIn_of_wpList hQ rest _ w hd.2 h⟩
theorem wpOpIn_of_wpOp (hQ : ¬ LetsOut Q) {i : Nat} {K : Act → World → Prop} (hd : ∀ o, ops[i]? = some o → noDefer o = true) (h : wpOp P ops Q i K a w) : wpOpIn (RF r) n P ops Q i K a w := by
  unfold wpOp at h
  unfold wpOpIn
  cases hi : ops[i]? with
  | none => rw [hi] at h; exact h
  | some o =>
    rw [hi] at h
    simp only at h ⊢
    split
    · rename_i hw
      rw [if_pos hw] at h
      rcases h with h | h
      · exact opIn_of_op (hd o hi) h
      · exact absurd h.2 hQ
    · rename_i hw
      rw [if_neg hw] at h
      exact ⟨fun _ _ => trivial, h⟩
theorem wpAnyIn_of_wpAny (hQ : ¬ LetsOut Q) {md : Region.Mode} (hd : ops.toList.all noDefer = true) : ∀ (fuel : Nat) (listed : Array Bool) (a : Act) (w : World), wpAny P md ops Q fuel listed a w → wpAnyIn (RF r) n P md ops Q fuel listed a w
  | 0, _, _, _, h => h
  | fuel + 1, listed, a, w, h => ⟨h.1, fun i hi => wpOpIn_mono (fun a' w' h' => wpAnyIn_of_wpAny hQ hd fuel _ a' w' h') (wpOpIn_of_wpOp hQ (fun o ho => List.all_eq_true.1 hd o (by
      have := Array.mem_of_getElem? ho
      simpa using this)) (h.2 i hi))⟩
/-- A region in text order, in a round. -/
theorem round_list {id : Nat} {l : List Oper} (h : wpList P l.toArray Q l a w) (hQ : ¬ LetsOut Q := by exact fun ⟨_, _, h⟩ => h) (hd : l.all noDefer = true := by kernel_rfl) : (Code.region id l.toArray false).wpIn (RF r) n P Q a w :=
  wpIn_region_lit (wpListIn_of_wpList hQ l a w hd h)
/-- A region that draws its order, in a round. -/
theorem round_any {id : Nat} (hQ : ¬ LetsOut Q) (hm : P.follows .mixedOrders = true) (hd : ops.toList.all noDefer = true) (h : wpAny P .any ops Q ops.size (Array.replicate ops.size false) a { w with drawn := w.drawn + 1 }) : (Code.region id ops true).wpIn (RF r) n P Q a w :=
  wpIn_region_any hm (wpAnyIn_of_wpAny hQ hd _ _ _ _ h)
theorem round_held {id : Nat} {S : World → Prop} (hS : S w.drew)
    (h : S w.drew → wpAnyH P .any ops Q S ops.size (Array.replicate ops.size false) a w.drew) (hQ : ¬ LetsOut Q := by exact fun ⟨_, _, h⟩ => h) (hm : P.follows .mixedOrders = true := by kernel_rfl) (hd : ops.toList.all noDefer = true := by kernel_rfl) : (Code.region id ops true).wpIn (RF r) n P Q a w :=
  round_any hQ hm hd (wpAny_of_held _ _ _ _ (h hS))
open Go.Sort Go.RowKit in
theorem round_tail {id : Nat} {l : List Oper} (n' : Nat) (hB : Region.lexTailB .any l.toArray n' = true)
    (h : wpQuiet P l.toArray (fun w' => ∃ p : Regrown, w' = grow (redrawn w p.d) p.os) (fun a' => ∀ w', Below w.heap.size w w' → wpList P l.toArray Q (l.drop n') a' w') (l.take n') a) (hQ : ¬ LetsOut Q := by exact fun ⟨_, _, h⟩ => h) (hm : P.follows .mixedOrders = true := by kernel_rfl) (hd : l.all noDefer = true := by kernel_rfl) : (Code.region id l.toArray true).wpIn (RF r) n P Q a w := by
  refine round_any hQ hm (by simpa using hd) (any_quiet_tail (C := fun w' => ∃ p : Regrown, w' = grow (redrawn w p.d) p.os) n' hB ⟨⟨w.drawn + 1, #[]⟩, by rw [grow_empty]; rfl⟩ ?_)
  exact wpQuiet_weaken _ _ _ _ (fun a' h' w' ⟨p, hp⟩ => h' w' (hp ▸ below_regrown w p.d p.os)) _ _ h
open Go.Sort Go.RowKit in
theorem round_calm {id : Nat} {l : List Oper} (hB : Region.lexB .any l.toArray = true)
    (h : wpQuiet P l.toArray (fun w' => ∃ p : Regrown, w' = grow (redrawn w p.d) p.os) (fun a' => ∀ w', Below w.heap.size w w' → Q .normal a' w') l a) (hQ : ¬ LetsOut Q := by exact fun ⟨_, _, h⟩ => h) (hm : P.follows .mixedOrders = true := by kernel_rfl) (hd : l.all noDefer = true := by kernel_rfl) : (Code.region id l.toArray true).wpIn (RF r) n P Q a w := by
  refine round_any hQ hm (by simpa using hd) ?_
  simp only [Region.lexB, Bool.and_eq_true] at hB
  refine wpAny_of_quiet (C := fun w' => ∃ p : Regrown, w' = grow (redrawn w p.d) p.os) (Q := fun a' => ∀ w', (∃ p : Regrown, w' = grow (redrawn w p.d) p.os) → Q .normal a' w') (fun _ w' hw' h => h w' hw') _ _ _ _ ⟨⟨w.drawn + 1, #[]⟩, by rw [grow_empty]; rfl⟩ ?_
  have h2 : wpQuiet P l.toArray (fun w' => ∃ p : Regrown, w' = grow (redrawn w p.d) p.os) (fun a' => ∀ w', (∃ p : Regrown, w' = grow (redrawn w p.d) p.os) → Q .normal a' w') l a :=
    wpQuiet_weaken _ _ _ _ (fun a' h' w' ⟨p, hp⟩ => h' w' (hp ▸ below_regrown w p.d p.os)) _ _ h
  have := wpAnyQ_lex (P := P) (C := fun w' => ∃ p : Regrown, w' = grow (redrawn w p.d) p.os) (md := .any) hB.1 l.toArray.toList 0 (Array.replicate l.toArray.size false) a (by simp) (by simpa using hB.2) (by simpa using h2)
  simpa using this
end
open Go.RowKit in
/-- An iterator over the list L: whatever the caller keeps between rounds, the elements come in order, all or the first ones; each round is told that what has come, with the next one, is a beginning of L; Kp must be kept by a round that goes on. -/
def StopsL {α : Type} (n : Nat) (P : Program) (g : Nat) (lb : Array Value) (encs : α → Array Value) (Kp : World → World → Prop) (L : List α) (w : World) : Prop :=
  ∀ (l : Nat) (J Jx : List α → World → Prop) (W : World), Below w.heap.size w W →
    (∀ pre x W1, J pre W1 → pre ++ [x] <+: L → YieldAt Fence.wide (n - 1) P l (encs x) W1 fun e W' =>
      (e = .returned (.bool true) ∧ J (pre ++ [x]) W' ∧ Kp W1 W') ∨ (e = .returned (.bool false) ∧ Jx (pre ++ [x]) W')) →
    J [] W →
    CallsIn Fence.wide n P g (#[.func (.yield l) #[] #[]] ++ lb) W fun e W' => (∃ v, e = .returned v) ∧ ((∃ xs, xs = L ∧ J xs W') ∨ (∃ pre, pre <+: L ∧ Jx pre W'))
open Go.RowKit in
/-- The same for callers of the law, who know of an element that it is one of L. -/
theorem StopsL.stops {α : Type} {n : Nat} {P : Program} {g : Nat} {lb : Array Value} {encs : α → Array Value} {Kp : World → World → Prop} {L : List α} {w : World} (h : StopsL n P g lb encs Kp L w) :
    SeqStopsK Fence.wide n P g lb (fun x : { x // x ∈ L } => encs x.1) Kp (fun ys => ys.map (·.1) = L) (fun pre => pre.map (·.1) <+: L) L.length w := by
  intro l J Jx W hW _ _ hY h0
  refine (h l (fun pre W => ∃ pre' : List { x // x ∈ L }, pre'.map (·.1) = pre ∧ J pre' W) (fun pre W => ∃ pre' : List { x // x ∈ L }, pre'.map (·.1) = pre ∧ Jx pre' W) W hW ?_ ⟨[], rfl, h0⟩).mono ?_
  · rintro pre x W1 ⟨pre', rfl, hJ⟩ hp
    have hx : x ∈ L := hp.subset (by simp)
    have hl := hp.length_le
    simp at hl
    refine (hY pre' ⟨x, hx⟩ W1 hJ (by omega)).mono ?_
    rintro e W' (⟨he, hj, hb⟩ | ⟨he, hj⟩)
    · exact .inl ⟨he, ⟨_, by simp, hj⟩, hb⟩
    · exact .inr ⟨he, ⟨_, by simp, hj⟩⟩
  · rintro e W' ⟨hv, ⟨xs, hx, pre', hp, hJ⟩ | ⟨pre, hpre, pre', hp, hJ⟩⟩
    · exact ⟨hv, .inl ⟨pre', hp.trans hx, hJ⟩⟩
    · exact ⟨hv, .inr ⟨pre', (by show List.map (·.1) pre' <+: L; rw [hp]; exact hpre), hJ⟩⟩
/-- An iterator's elements, named otherwise. -/
theorem StopsL.map {α β : Type} {n : Nat} {P : Program} {g : Nat} {lb : Array Value} {encs : α → Array Value} {Kp : World → World → Prop} {L : List α} {w : World} (h : StopsL n P g lb encs Kp L w) (φ : α → β) (encs' : β → Array Value) (he : ∀ x ∈ L, encs' (φ x) = encs x) :
    StopsL n P g lb encs' Kp (L.map φ) w := by
  intro l J Jx W hW hY h0
  refine (h l (fun pre W => J (pre.map φ) W) (fun pre W => Jx (pre.map φ) W) W hW ?_ h0).mono ?_
  · intro pre x W1 hJ hp
    have hp' : pre.map φ ++ [φ x] <+: L.map φ := by
      obtain ⟨t, ht⟩ := hp
      exact ⟨t.map φ, by rw [← ht]; simp⟩
    have := hY (pre.map φ) (φ x) W1 hJ hp'
    rw [he x (hp.subset (by simp))] at this
    simpa using this
  · rintro e W' ⟨hv, ⟨xs, rfl, hJ⟩ | ⟨pre, hpre, hJ⟩⟩
    · exact ⟨hv, .inl ⟨_, rfl, hJ⟩⟩
    · refine ⟨hv, .inr ⟨pre.map φ, ?_, hJ⟩⟩
      obtain ⟨t, ht⟩ := hpre
      exact ⟨t.map φ, by rw [← ht]; simp⟩
end Go.Proofs.Ytkcomhbmhgnhhaa
