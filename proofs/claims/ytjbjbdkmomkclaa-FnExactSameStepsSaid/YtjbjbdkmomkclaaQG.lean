/- LOADS of whole frames under a guard that is met, in a region that draws its order. -/
import Derived.Test.YtjbjbdkmomkclaaBk
namespace Go.Proofs.Ytjbjbdkmomkclaa
open Go.RowKit
set_option linter.unusedVariables false
set_option linter.unusedSimpArgs false
section
variable {P : Program} {ops : Array Oper} {rest : List Oper} {o : Oper} {a : Act} {w : World}
open Go.Sort in
theorem wpQuiet_load_frG {Q : Act → Prop} (hw : Region.wanted o (yielded ops a.tmps) = true) (ty e : TypeId) (x : Operand) (ho : o.op = .load ty x) (g : Nat) (hx : a.eval x = .pointer (some ⟨g, 0, none⟩))
    {t : TypeId} {f : Nat → Nat} (hb : Blk w g t f) (hu : P.underlying ty = some (.array 12 e)) (hi : (P.info? ty).map (·.size) = some 12)
    (h : wpQuiet P ops (fun w' => ∃ p : Regrown, w' = grow (redrawn w p.d) p.os) Q rest (a.put o.dst (.agg (FC f)))) : wpQuiet P ops (fun w' => ∃ p : Regrown, w' = grow (redrawn w p.d) p.os) Q (o :: rest) a := by
  unfold wpQuiet
  rw [if_pos hw]
  refine ⟨_, ?_, h⟩
  rintro w' ⟨p, rfl⟩
  have hb' : Blk (grow (redrawn w p.d) p.os) g t f := hb.below (below_regrown w p.d p.os) hb.lt
  unfold Oper.quietAt execOp
  simp only [ho, hx, Instr.loadAt, Instr.sureAddr, Sem.run_bind, Sem.run_pure, Result.andThen_ok, run_loadVar_row _ g t ty (FC f) (0, 0) _ hb' hu rfl hi]
  exact ⟨rfl, rfl⟩
open Go.Sort in
theorem wpQuiet_load_atG {Q : Act → Prop} (hw : Region.wanted o (yielded ops a.tmps) = true) (ty e : TypeId) (x : Operand) (ho : o.op = .load ty x) (b off : Nat) (hx : a.eval x = .pointer (some ⟨b, off, none⟩)) {f : Nat → Nat} (hb : w.rangeAt b off (FC f).toList) (hlt : b < w.heap.size)
    (hu : P.underlying ty = some (.array 12 e)) (hi : (P.info? ty).map (·.size) = some 12)
    (h : wpQuiet P ops (fun w' => ∃ p : Regrown, w' = grow (redrawn w p.d) p.os) Q rest (a.put o.dst (.agg (FC f)))) : wpQuiet P ops (fun w' => ∃ p : Regrown, w' = grow (redrawn w p.d) p.os) Q (o :: rest) a := by
  have hz : (P.info? ty).map (·.size) = some (FC f).toList.length := hi
  unfold wpQuiet
  rw [if_pos hw]
  refine ⟨_, ?_, h⟩
  rintro w' ⟨p, rfl⟩
  have hb' : (grow (redrawn w p.d) p.os).rangeAt b off (FC f).toList := range_below hb (below_regrown w p.d p.os) hlt
  unfold Oper.quietAt execOp
  simp only [ho, hx, Instr.loadAt, Instr.sureAddr, Sem.run_bind, Sem.run_pure, Result.andThen_ok, run_loadVar_mid _ b off ty (FC f).toList _ hb' hu rfl hz]
  exact ⟨rfl, rfl⟩
end
end Go.Proofs.Ytjbjbdkmomkclaa
