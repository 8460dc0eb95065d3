/- A list is appended whole to a row of the call's own, nil or empty or not. Plain lemmas: no function of the program is named. -/
import Derived.Test.YtjbjbdkmomkclaaMem
namespace Go.Proofs.Ytjbjbdkmomkclaa
open Go.RowKit
section
variable {P : Program} {ops : Array Oper} {rest : List Oper} {o : Oper} {a : Act} {w : World} {Q : Exit → Act → World → Prop} {α : Type} {E : Enc α}
theorem run_append_none0 (w : World) (base : Nat) (t ty e : TypeId) (i : TypeInfo) (size : Nat) (ht : P.underlying t = some (.slice e)) (hi : P.info? e = some i)
    (v : Value) (n : Nat) (xs : List Value) (hown : w.ownsRow base e size v n xs) (c : Nat) : (Builtin.append_ #[t, t] ty #[v, .slice none 0 c]).run P w = .ok v w := by
  rcases hown.2 with ⟨rfl, rfl⟩ | ⟨g, cap, cur, rfl, _, _, hnc, _⟩
  · simp [Builtin.append_, run_underlying ht, sizeOf, typeInfo, hi, Builtin.lenOf, Builtin.firstCells]
  · simp [Builtin.append_, run_underlying ht, sizeOf, typeInfo, hi, Builtin.lenOf, Builtin.firstCells, hnc, storeCells]
theorem wpList_append_sl (hgd : o.guard = none) (s x : Operand) (t : TypeId)
    (ho : o.op = .call { callee := .builtin .append, args := #[s, x], argTypes := #[t, t] }) (base : Nat) (e : TypeId) {z : Value} {bytes : Nat} (ht : P.underlying t = some (.slice e))
    (hinf : (P.info? e).map (fun i => (i.zero, i.size, i.bytes)) = some (some z, E.n, bytes)) (hzs : z.cells.size = E.n) (hE : 0 < E.n) (hby : bytes ≤ 1000)
    {v : Value} {L : List α} (hown : OwnL E w base e v L) (hs : a.eval s = v) {u : Value} {M : List α} {B : Nat} (hx : a.eval x = u) (hu : SlAt E w B u M) (hlen : L.length + M.length ≤ 1000000000) (hbase : base ≤ w.heap.size)
    (h : ∀ v' w', OwnL E w' base e v' (L ++ M) → w.grownBy w' v.ownBlock → wpList P ops Q rest (a.put o.dst v') w') : wpList P ops Q (o :: rest) a w := by
  obtain ⟨i, hi, hz0, hz1, hz2⟩ := info_parts hinf
  have hb : (L.length + M.length) * bytes ≤ 140737488355328 := by
    have : (L.length + M.length) * bytes ≤ 1000000000 * 1000 := Nat.mul_le_mul hlen hby
    omega
  obtain ⟨A, c, rfl, h1, h2, hA⟩ := hu
  have fin : ∀ v' w', w'.ownsRow base e E.n v' (L.length + M.length) (E.cells L ++ E.cells M) → w.grownBy w' v.ownBlock → wpList P ops Q rest (a.put o.dst v') w' := fun v' w' k1 k2 => h v' w' (by
    unfold OwnL
    rw [List.length_append, Enc.cells_append]
    exact k1) k2
  by_cases hm : 0 < M.length
  · obtain ⟨b, off, rfl, _, hr⟩ := hA hm
    exact wpList_append_own _ hgd s x t ho base e i z E.n bytes ht hi hz0 hz1 hz2 hzs hE v L.length (E.cells L) hs hown ⟨b, off, none⟩ M.length c (E.cells M) hx (Enc.cells_length M) (fun j u hu => by rw [Addr.add_mid]; exact hr j u hu) (Enc.cells_all M) (by unfold maxLen; omega) hb hbase (fun v' w' k1 k2 _ => fin v' w' k1 k2)
  · obtain rfl : M = [] := List.eq_nil_of_length_eq_zero (by omega)
    cases A with
    | some ad =>
      exact wpList_append_own _ hgd s x t ho base e i z E.n bytes ht hi hz0 hz1 hz2 hzs hE v L.length (E.cells L) hs hown ad 0 c [] hx (by simp) (by simp) (by simp) (by unfold maxLen; omega) hb hbase (fun v' w' k1 k2 _ => fin v' w' k1 k2)
    | none =>
      refine wpList_plain hgd fun K hK => ?_
      have hrun := run_append_none0 (P := P) w base t o.type e i E.n ht hi v L.length (E.cells L) hown c
      unfold Oper.wp execOp
      simp only [ho, resolve, invoke, builtin, Sem.run_bind, Sem.run_pure, Result.andThen_ok, List.map_toArray, List.map_cons, List.map_nil, hs, hx, List.length_nil, hrun]
      exact hK _ _ (h v w (by simpa using hown) (World.grownBy.refl w _))
end
end Go.Proofs.Ytjbjbdkmomkclaa
