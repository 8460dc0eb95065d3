/- A cut behind a region whose ways end alike but for the numbers of two blocks; loads of elements and stores of rows in such a region. No function of the program is named. -/
import Derived.Test.YtjbjbdkmomkclaaDoorHeld
import Derived.Test.YtjbjbdkmomkclaaDoorBk
namespace Go.Proofs.YtjbjbdkmomkclaaDoor
open Go.RowKit
section
variable {P : Program} {ops : Array Oper} {Q : Exit → Act → World → Prop} {S : World → Prop}
theorem wp_cut_two {c : Code} {a : Act} {w : World} (F : Nat → Nat → Act) (R : Nat → Nat → World → Prop) (h : c.wp P (fun e a' w' => e = .normal ∧ ∃ g h, a' = F g h ∧ R g h w') a w) (k : ∀ g h w', R g h w' → Q .normal (F g h) w') : c.wp P Q a w :=
  Code.wp_mono (fun e a' w' ⟨he, g, h, ha, hR⟩ => by subst he; subst ha; exact k g h w' hR) h
theorem yieldsIf_load_el {α : Type} {E : Enc α} {o : Oper} {a : Act} (hgd : o.guard = none) (ty : TypeId) (x : Operand) (ho : o.op = .load ty x) (b off : Nat) (hx : a.eval x = .pointer (some ⟨b, off, none⟩)) (y : α) (cs : Array Value) (hcs : cs.toList = E.c y) (hb : ∀ w, S w → w.rangeAt b off (E.c y)) {d : TypeDesc}
    (hu : P.underlying ty = some d) (hd : d.isRow = true) (hi : (P.info? ty).map (·.size) = some E.n) : YieldsIf P ops S o (.agg cs) a := by
  refine .inl ⟨by simp [Region.wanted, hgd], fun w hS => ?_⟩
  have hl : cs = (E.c y).toArray := by rw [← hcs]
  have hz : (P.info? ty).map (·.size) = some (E.c y).length := by rw [E.len]; exact hi
  unfold execOp
  simp only [ho, hx, Instr.loadAt, Instr.sureAddr, Sem.run_bind, Sem.run_pure, Result.andThen_ok, run_loadVar_mid _ b off ty (E.c y) d (hb w hS) hu hd hz, hl]
theorem wp_store_rowH {o : Oper} {a : Act} {w : World} {K : Act → World → Prop} (ty : TypeId) (x y : Operand) (ho : o.op = .store ty x y) (g : Nat) (hx : a.eval x = .pointer (some ⟨g, 0, none⟩)) {t : TypeId} {cs0 cs : Array Value} (hb : Row w g t cs0)
    (hy : a.eval y = .agg cs) (hs : cs.size = cs0.size) (h1 : ∀ v ∈ cs.toList, v.oneCell' = true) (hi : (P.info? ty).map (·.size) = some cs.size) (h : K (a.put o.dst undef) (w.setRow g cs)) : o.wp P a w K Q := by
  unfold Oper.wp execOp
  simp only [ho, hx, hy, Instr.storeAt, Instr.sureAddr, Sem.run_bind, Sem.run_pure, Result.andThen_ok, run_storeVar_row w g t ty cs0 cs hb hs h1 hi]
  exact h
end
end Go.Proofs.YtjbjbdkmomkclaaDoor
