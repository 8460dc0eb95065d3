/- A MAP WHOSE KEYS ARE FRAMES AND WHOSE ELEMENTS ARE INTEGERS OF 64 BITS: what it gives for each frame. -/
import Derived.Test.YtkcomhbmhgnhhabRows
import Derived.Test.YtkcomhbmhgnhhabFr
import Derived.Maps.OwnSet
import Derived.Maps.OwnOps
import Derived.WideKeyArr2
namespace Go.Proofs.Ytkcomhbmhgnhhab
open Go.RowKit Go.Maps Go.WideMaps
set_option linter.unusedVariables false
theorem arrKeyFr : ArrKey Try.prog 64 62 12 := ⟨Try.underlying64, by kernel_rfl, by kernel_rfl, by kernel_rfl⟩
theorem keyedFr : Keyed Try.prog 64 := Keyed.of_law arrKeyFr.law
theorem sizeTypes : ∃ m, Try.prog.types.size = m + 1 := ⟨Try.prog.types.size - 1, by kernel_rfl⟩
theorem wfU16 (n : Nat) (h : n < 65536) : (Lit.int .u16 (n : Int)).wf = true := by
  have e1 : IntKind.u16.min = 0 := by decide
  have e2 : IntKind.u16.max = 65535 := by decide
  simp [Lit.wf, e1, e2]; omega
theorem keyFr (f : Nat → Nat) (hf : ∀ k, f k < 65536) : ∃ l, keyOf Try.prog 64 (.agg (FC f)) = some l := by
  have hkt := arrKeyFr.keyType sizeTypes
  obtain ⟨m0, hm0⟩ := sizeTypes
  have hc := arrKeyFr.size
  have h1 := arrKeyFr.one
  have hw : ∀ i, (Lit.int .u16 (f i : Int)).wf = true := fun i => wfU16 (f i) (hf i)
  refine ⟨.string (keyBytes ((List.range 12).map fun i => .int .u16 (f i : Int))), ?_⟩
  unfold keyOf
  simp only [arrKeyFr.hu]
  rw [if_pos (by simp [hkt, Value.formed, arrKeyFr.hu, hc]; rfl), hm0]
  unfold Program.keyLits
  simp only [arrKeyFr.hu, Value.cells]
  rw [if_pos (by rw [hc]; rfl), h1]
  have hstep : ∀ i, i < 12 → Try.prog.keyLits (m0 + 1) 62 (((FC f).toList.drop (i * 1)).take 1) = some [.int .u16 (f i : Int)] := by
    intro i hi
    have e : ((FC f).toList.drop (i * 1)).take 1 = [.int .u16 (f i : Int)] := by
      rcases (show i = 0 ∨ i = 1 ∨ i = 2 ∨ i = 3 ∨ i = 4 ∨ i = 5 ∨ i = 6 ∨ i = 7 ∨ i = 8 ∨ i = 9 ∨ i = 10 ∨ i = 11 by omega) with rfl | rfl | rfl | rfl | rfl | rfl | rfl | rfl | rfl | rfl | rfl | rfl <;> rfl
    rw [e]
    unfold Program.keyLits
    simp [Try.underlying62, hw]
  have hall : ∀ L : List Nat, (∀ i ∈ L, i < 12) → L.mapM (fun i => Try.prog.keyLits (m0 + 1) 62 (((FC f).toList.drop (i * 1)).take 1)) = some (L.map fun i => [Lit.int .u16 (f i : Int)]) := by
    intro L
    induction L with
    | nil => intro _; rfl
    | cons x L ih =>
      intro h
      rw [List.mapM_cons, hstep x (h x (by simp)), ih (fun i hi => h i (by simp [hi]))]
      rfl
  rw [hall _ (fun i hi => List.mem_range.1 hi)]
  have hfl : ∀ L : List Nat, (L.map fun i => [Lit.int .u16 (f i : Int)]).flatten = L.map fun i => Lit.int .u16 (f i : Int) := fun L => by
    induction L with
    | nil => rfl
    | cons x L ih => simp [ih]
  simp only [Option.map_some, hfl]
theorem FC_inj {f g : Nat → Nat} (h : FC f = FC g) : eqF f g = true := by
  unfold FC at h
  simp at h
  unfold eqF
  simp only [List.all_eq_true, List.mem_range, beq_iff_eq]
  intro i hi
  rcases (show i = 0 ∨ i = 1 ∨ i = 2 ∨ i = 3 ∨ i = 4 ∨ i = 5 ∨ i = 6 ∨ i = 7 ∨ i = 8 ∨ i = 9 ∨ i = 10 ∨ i = 11 by omega) with rfl | rfl | rfl | rfl | rfl | rfl | rfl | rfl | rfl | rfl | rfl | rfl <;> omega
/-- Block b is a map of at most n entries that has for the frame f what G f tells. -/
def MapF (w : World) (b n : Nat) (G : (Nat → Nat) → Option Int) : Prop :=
  (∀ f g, eqF f g = true → G f = G g) ∧ (∀ f z, G f = some z → (Lit.int .i64 z).wf = true) ∧ ∃ D : DataW Unit, w.ownsMap Try.prog 64 (plainElem Try.prog 2) b n D ∧
    ∀ f kl, keyOf Try.prog 64 (.agg (FC f)) = some kl → Maps.has D kl = (G f).isSome ∧ ∀ z, G f = some z → D.atKey kl (.lit (.int .i64 0)) = .lit (.int .i64 z)
section
variable {w w' : World} {b n : Nat} {G : (Nat → Nat) → Option Int}
theorem MapF.made (w : World) : MapF (w.alloc (.map #[] 0)) w.heap.size 0 (fun _ => none) :=
  ⟨fun _ _ _ => rfl, fun _ _ h => (by cases h), .map [], World.ownsMap_made w _ _ _, fun f kl _ => ⟨rfl, fun z h => (by cases h)⟩⟩
theorem MapF.lt (h : MapF w b n G) : b < w.heap.size := by obtain ⟨_, _, D, hD, _⟩ := h; exact hD.lt
theorem MapF.mono (h : MapF w b n G) {n' : Nat} (hn : n ≤ n') : MapF w b n' G := by obtain ⟨h1, h2, D, hD, h3⟩ := h; exact ⟨h1, h2, D, hD.mono hn, h3⟩
theorem MapF.kept {row : Option Nat} (h : MapF w b n G) (hg : w.grownBy w' row) (hne : some b ≠ row) : MapF w' b n G := by obtain ⟨h1, h2, D, hD, h3⟩ := h; exact ⟨h1, h2, D, hD.kept hg hne, h3⟩
theorem MapF.keep (h : MapF w b n G) (hb : w'.heap[b]? = w.heap[b]?) : MapF w' b n G := by
  obtain ⟨h1, h2, D, ⟨es, clock, hE, F, hs, hD⟩, h3⟩ := h
  exact ⟨h1, h2, D, ⟨es, clock, hb.trans hE, F, hs, hD⟩, h3⟩
theorem MapF.below (h : MapF w b n G) (hb : Below w.heap.size w w') : MapF w' b n G := h.keep (hb.block b h.lt)
theorem MapF.alloc (h : MapF w b n G) (o : Obj) : MapF (w.alloc o) b n G := by obtain ⟨h1, h2, D, hD, h3⟩ := h; exact ⟨h1, h2, D, hD.alloc o, h3⟩
theorem MapF.ext {G' : (Nat → Nat) → Option Int} (h : MapF w b n G) (he : ∀ f, G f = G' f) : MapF w b n G' := by
  have : G = G' := funext he
  rwa [← this]
/-- What a store makes of it. -/
def putG (G : (Nat → Nat) → Option Int) (f : Nat → Nat) (z : Int) : (Nat → Nat) → Option Int := fun g => if eqF g f then some z else G g
theorem eqF_symm' {f g : Nat → Nat} (h : eqF f g = true) : eqF g f = true := by
  unfold eqF at h ⊢
  simp only [List.all_eq_true, List.mem_range, beq_iff_eq] at h ⊢
  exact fun i hi => (h i hi).symm
theorem eqF_trans' {f g k : Nat → Nat} (h : eqF f g = true) (h2 : eqF g k = true) : eqF f k = true := by
  unfold eqF at h h2 ⊢
  simp only [List.all_eq_true, List.mem_range, beq_iff_eq] at h h2 ⊢
  exact fun i hi => (h i hi).trans (h2 i hi)
theorem FC_eq {f g : Nat → Nat} (h : eqF f g = true) : FC f = FC g := by
  unfold eqF at h
  simp only [List.all_eq_true, List.mem_range, beq_iff_eq] at h
  unfold FC
  rw [h 0 (by omega), h 1 (by omega), h 2 (by omega), h 3 (by omega), h 4 (by omega), h 5 (by omega), h 6 (by omega), h 7 (by omega), h 8 (by omega), h 9 (by omega), h 10 (by omega), h 11 (by omega)]
theorem MapF.lookup (h : MapF w b n G) {f : Nat → Nat} (hf : ∀ k, f k < 65536) {t : TypeId} (ht : Try.prog.underlying t = some (.map 64 2)) :
    (Instr.lookup t (.map (some b)) (.agg (FC f)) false).run Try.prog w = .ok (.int .i64 ((G f).getD 0)) w := by
  obtain ⟨h1, h2, D, hD, h3⟩ := h
  obtain ⟨kl, hkl⟩ := keyFr f hf
  obtain ⟨c, hrun, hat, _⟩ := hD.lookup_int keyedFr ht Try.underlying2 (by kernel_rfl) hkl
  obtain ⟨h4, h5⟩ := h3 f kl hkl
  rw [hrun]
  cases hG : G f with
  | none =>
    rw [hG] at h4
    rw [Maps.atKey_of_not_has h4] at hat
    cases hat; rfl
  | some z =>
    rw [h5 z hG] at hat
    cases hat; rfl
theorem MapF.lookup_ok (h : MapF w b n G) {f : Nat → Nat} (hf : ∀ k, f k < 65536) {t : TypeId} (ht : Try.prog.underlying t = some (.map 64 2)) :
    (Instr.lookup t (.map (some b)) (.agg (FC f)) true).run Try.prog w = .ok (.tuple #[.int .i64 ((G f).getD 0), .bool (G f).isSome]) w := by
  obtain ⟨h1, h2, D, hD, h3⟩ := h
  obtain ⟨kl, hkl⟩ := keyFr f hf
  obtain ⟨v, ps, hrun, hat⟩ := hD.look_ok keyedFr ht (z := .int .i64 0) (by kernel_rfl) (plainElem_int Try.underlying2 (by decide)) hkl
  obtain ⟨c, rfl, hc, _⟩ := plainElem_int_inv Try.underlying2 hat
  obtain ⟨h4, h5⟩ := h3 f kl hkl
  rw [hrun, h4]
  have hc1 := congrArg Prod.fst hc
  dsimp only at hc1
  cases hG : G f with
  | none =>
    rw [hG] at h4
    rw [Maps.atKey_of_not_has h4] at hc1
    cases hc1; rfl
  | some z =>
    rw [h5 z hG] at hc1
    cases hc1; rfl
theorem MapF.ok_none (h : MapF w b n G) {f : Nat → Nat} (hf : ∀ k, f k < 65536) (hn : G f = none) {t : TypeId} (ht : Try.prog.underlying t = some (.map 64 2)) :
    (Instr.lookup t (.map (some b)) (.agg (FC f)) true).run Try.prog w = .ok (.tuple #[.int .i64 0, .bool false]) w := by
  have := h.lookup_ok hf ht
  rw [hn] at this; exact this
theorem MapF.ok_some (h : MapF w b n G) {f : Nat → Nat} (hf : ∀ k, f k < 65536) {z : Int} (hn : G f = some z) {t : TypeId} (ht : Try.prog.underlying t = some (.map 64 2)) :
    (Instr.lookup t (.map (some b)) (.agg (FC f)) true).run Try.prog w = .ok (.tuple #[.int .i64 z, .bool true]) w := by
  have := h.lookup_ok hf ht
  rw [hn] at this; exact this
theorem MapF.at_some (h : MapF w b n G) {f : Nat → Nat} (hf : ∀ k, f k < 65536) {z : Int} (hn : G f = some z) {t : TypeId} (ht : Try.prog.underlying t = some (.map 64 2)) :
    (Instr.lookup t (.map (some b)) (.agg (FC f)) false).run Try.prog w = .ok (.int .i64 z) w := by
  have := h.lookup hf ht
  rw [hn] at this; exact this
theorem Blk.grown' {w w' : World} {row : Option Nat} {g : Nat} {t : TypeId} {f : Nat → Nat} (h : Blk w g t f) (hg : w.grownBy w' row) (hne : row ≠ some g) : Blk w' g t f := (hg.block g h.lt (fun e => hne e.symm)).trans h
theorem below_grown' {S B : Nat} {a w w' : World} (hb : Below S a w) (hg : w.grownBy w' (some B)) (hS : S ≤ B) (hw : S ≤ w.heap.size) : Below S a w' := hb.grown hg hw (fun k e => by cases e; exact hS)
theorem MapF.update (h : MapF w b n G) (hn : n < maxLen) {f : Nat → Nat} (hf : ∀ k, f k < 65536) {z : Int} (hz : (Lit.int .i64 z).wf = true) {t : TypeId} (ht : Try.prog.underlying t = some (.map 64 2)) :
    ∃ w', (Instr.mapUpdate t (.map (some b)) (.agg (FC f)) (.int .i64 z)).run Try.prog w = .ok () w' ∧ MapF w' b (n + 1) (putG G f z) ∧ w.grownBy w' (some b) := by
  obtain ⟨h1, h2, D, hD, h3⟩ := h
  obtain ⟨kl, hkl⟩ := keyFr f hf
  obtain ⟨w', hrun, hD', hg⟩ := hD.update keyedFr ht hn hkl (plainElem_int Try.underlying2 hz)
  refine ⟨w', hrun, ⟨?_, ?_, _, hD', ?_⟩, hg⟩
  · intro g g' hgg
    unfold putG
    by_cases e : eqF g f = true
    · rw [if_pos e, if_pos (eqF_trans' (eqF_symm' hgg) e)]
    · rw [if_neg e, if_neg (fun e' => e (eqF_trans' hgg e')), h1 g g' hgg]
  · intro g z' hg'
    unfold putG at hg'
    split at hg'
    · cases hg'; exact hz
    · exact h2 g z' hg'
  · intro g kg hkg
    have hik : WideAt.IsKeyLit kl := keyedFr.key hkl
    unfold putG
    by_cases e : eqF g f = true
    · have : kg = kl := by rw [FC_eq e, hkl] at hkg; cases hkg; rfl
      subst this
      rw [if_pos e]
      exact ⟨Maps.has_put_same hD.isMap hik _, fun z' hz' => by cases hz'; exact Maps.atKey_put_same hD.isMap hik _ _⟩
    · rw [if_neg e]
      have hne : kg ≠ kl := by
        rintro rfl
        have := keyedFr.inj hkg hkl
        simp only [Value.agg.injEq] at this
        exact e (FC_inj this)
      rw [Maps.has_put_other hne]
      exact ⟨(h3 g kg hkg).1, fun z' hz' => by rw [Maps.atKey_put_other hne]; exact (h3 g kg hkg).2 z' hz'⟩
end
end Go.Proofs.Ytkcomhbmhgnhhab
