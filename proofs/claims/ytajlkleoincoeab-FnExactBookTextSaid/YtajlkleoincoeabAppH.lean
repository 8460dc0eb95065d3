/- Appends to a row of the call's own, at one step of a region that draws its order. Plain lemmas: no function of the program is named. -/
import Derived.Test.YtajlkleoincoeabApp
import Derived.Test.YtajlkleoincoeabHeld2
namespace Go.Proofs.Ytajlkleoincoeab
open Go.RowKit
/-- A region whose ways all end normally, in one state but for three, or four, things of its own making. -/
theorem wp_cut_3 {P : Program} {Q : Exit → Act → World → Prop} {α β γ : Type} {c : Code} {a : Act} {w : World} (F : α → β → γ → Act) (R : α → β → γ → World → Prop) (h : c.wp P (fun e a' w' => e = .normal ∧ ∃ x y z, a' = F x y z ∧ R x y z w') a w) (k : ∀ x y z w', R x y z w' → Q .normal (F x y z) w') : c.wp P Q a w :=
  Code.wp_mono (fun e a' w' ⟨he, x, y, z, ha, hR⟩ => by subst he; subst ha; exact k x y z w' hR) h
theorem wp_cut_4 {P : Program} {Q : Exit → Act → World → Prop} {α β γ δ : Type} {c : Code} {a : Act} {w : World} (F : α → β → γ → δ → Act) (R : α → β → γ → δ → World → Prop) (h : c.wp P (fun e a' w' => e = .normal ∧ ∃ x y z u, a' = F x y z u ∧ R x y z u w') a w) (k : ∀ x y z u w', R x y z u w' → Q .normal (F x y z u) w') : c.wp P Q a w :=
  Code.wp_mono (fun e a' w' ⟨he, x, y, z, u, ha, hR⟩ => by subst he; subst ha; exact k x y z u w' hR) h
section
variable {P : Program} {o : Oper} {a : Act} {w : World} {K : Act → World → Prop} {Q : Exit → Act → World → Prop} {α : Type} {E : Enc α}
theorem wp_append_slH (s x : Operand) (t : TypeId)
    (ho : o.op = .call { callee := .builtin .append, args := #[s, x], argTypes := #[t, t] }) (base : Nat) (e : TypeId) {z : Value} {bytes : Nat} (ht : P.underlying t = some (.slice e))
    (hinf : (P.info? e).map (fun i => (i.zero, i.size, i.bytes)) = some (some z, E.n, bytes)) (hzs : z.cells.size = E.n) (hE : 0 < E.n) (hby : bytes ≤ 1000)
    {v : Value} {L : List α} (hown : OwnL E w base e v L) (hs : a.eval s = v) {u : Value} {M : List α} {B : Nat} (hx : a.eval x = u) (hu : SlAt E w B u M) (hlen : L.length + M.length ≤ 1000000000) (hbase : base ≤ w.heap.size)
    (h : ∀ v' w', OwnL E w' base e v' (L ++ M) → w.grownBy w' v.ownBlock → K (a.put o.dst v') w') : o.wp P a w K Q := by
  obtain ⟨i, hi, hz0, hz1, hz2⟩ := info_parts hinf
  have hb : (L.length + M.length) * bytes ≤ 140737488355328 := by
    have : (L.length + M.length) * bytes ≤ 1000000000 * 1000 := Nat.mul_le_mul hlen hby
    omega
  obtain ⟨A, c, rfl, h1, h2, hA⟩ := hu
  have fin : ∀ v' w', w'.ownsRow base e E.n v' (L.length + M.length) (E.cells L ++ E.cells M) → w.grownBy w' v.ownBlock → K (a.put o.dst v') w' := fun v' w' k1 k2 => h v' w' (by
    unfold OwnL
    rw [List.length_append, Enc.cells_append]
    exact k1) k2
  by_cases hm : 0 < M.length
  · obtain ⟨b, off, rfl, _, hr⟩ := hA hm
    exact wp_append_own _ s x t ho base e i z E.n bytes ht hi hz0 hz1 hz2 hzs hE v L.length (E.cells L) hs hown ⟨b, off, none⟩ M.length c (E.cells M) hx (Enc.cells_length M) (fun j u hu => by rw [Addr.add_mid]; exact hr j u hu) (Enc.cells_all M) (by unfold maxLen; omega) hb hbase (fun v' w' k1 k2 _ => fin v' w' k1 k2)
  · obtain rfl : M = [] := List.eq_nil_of_length_eq_zero (by omega)
    cases A with
    | some ad =>
      exact wp_append_own _ s x t ho base e i z E.n bytes ht hi hz0 hz1 hz2 hzs hE v L.length (E.cells L) hs hown ad 0 c [] hx (by simp) (by simp) (by simp) (by unfold maxLen; omega) hb hbase (fun v' w' k1 k2 _ => fin v' w' k1 k2)
    | none =>
      have hrun := run_append_none0 (P := P) w base t o.type e i E.n ht hi v L.length (E.cells L) hown c
      unfold Oper.wp execOp
      simp only [ho, resolve, invoke, builtin, Sem.run_bind, Sem.run_pure, Result.andThen_ok, List.map_toArray, List.map_cons, List.map_nil, hs, hx, List.length_nil, hrun]
      exact h v w (by simpa using hown) (World.grownBy.refl w _)
theorem wp_append_oneH (s x : Operand) (t : TypeId)
    (ho : o.op = .call { callee := .builtin .append, args := #[s, x], argTypes := #[t, t] }) (base : Nat) (e : TypeId) {z : Value} {bytes : Nat} (ht : P.underlying t = some (.slice e))
    (hinf : (P.info? e).map (fun i => (i.zero, i.size, i.bytes)) = some (some z, E.n, bytes)) (hzs : z.cells.size = E.n) (hE : 0 < E.n) (hby : bytes ≤ 1000)
    {v : Value} {L : List α} (hown : OwnL E w base e v L) (hs : a.eval s = v) (y : α) {g : Nat} (hx : a.eval x = .slice (some ⟨g, 0, none⟩) 1 1) (hy : w.rangeAt g 0 (E.c y)) (hlen : L.length ≤ 1000000000) (hbase : base ≤ w.heap.size)
    (h : ∀ v' w', OwnL E w' base e v' (L ++ [y]) → w.grownBy w' v.ownBlock → K (a.put o.dst v') w') : o.wp P a w K Q := by
  obtain ⟨i, hi, hz0, hz1, hz2⟩ := info_parts hinf
  refine wp_append_own _ s x t ho base e i z E.n bytes ht hi hz0 hz1 hz2 hzs hE v L.length (E.cells L) hs hown ⟨g, 0, none⟩ 1 1 (E.c y) hx (by rw [E.len, Nat.one_mul]) (fun j u hu => by rw [Addr.add_mid]; exact hy j u hu) (E.one y) (by unfold maxLen; omega) ?_ hbase ?_
  · have : (L.length + 1) * bytes ≤ (1000000000 + 1) * 1000 := Nat.mul_le_mul (by omega) hby
    omega
  · intro v' w' h1 h2 _
    refine h v' w' ?_ h2
    unfold OwnL
    rw [List.length_append, Enc.cells_append, Enc.cells_one]
    exact h1
theorem wp_build1H (t e : TypeId) (x : Operand) (ho : o.op = .buildSlice t 1 #[(0, x)]) {v : Value} {cs : Array Value} (hx : a.eval x = v)
    (hr : ∀ w, (Instr.buildSlice t 1 #[(0, v)]).run P w = .ok (.slice (some ⟨w.heap.size, 0, none⟩) 1 1) (w.alloc (.cells cs e)))
    (h : K (a.put o.dst (.slice (some ⟨w.heap.size, 0, none⟩) 1 1)) (w.alloc (.cells cs e))) : o.wp P a w K Q := by
  unfold Oper.wp execOp
  simp only [ho, List.map_toArray, List.map_cons, List.map_nil, hx, Sem.run_bind, hr, Result.andThen_ok, Sem.run_pure]
  exact h
end
end Go.Proofs.Ytajlkleoincoeab
