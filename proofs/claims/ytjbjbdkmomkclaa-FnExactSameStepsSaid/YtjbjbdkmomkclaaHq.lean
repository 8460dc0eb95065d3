/- A region's quiet walk behind a structure: so that no step reckons ahead over operations whose guard is not met. No function of the program is named. -/
import Derived.Test.YtjbjbdkmomkclaaQuiet
import Derived.Test.YtjbjbdkmomkclaaBk
import Derived.Test.YtjbjbdkmomkclaaCel0
import Derived.Test.YtjbjbdkmomkclaaQG
namespace Go.Proofs.Ytjbjbdkmomkclaa
open Go.RowKit
set_option linter.unusedVariables false
set_option linter.unusedSimpArgs false
structure Hq (p : Prop) : Prop where
  out : p
section
variable {P : Program} {ops : Array Oper} {C : World → Prop} {Q : Act → Prop} {rest : List Oper} {o : Oper} {a : Act} {w : World}
theorem hq_nil (h : Q a) : Hq (wpQuiet P ops C Q [] a) := ⟨h⟩
theorem hq_step (h : ∀ K : Act → Prop, (∀ a, Hq (wpQuiet P ops C Q rest a) → K a) → if Region.wanted o (yielded ops a.tmps) then o.quiet P a C K else K (a.put o.dst undef)) : Hq (wpQuiet P ops C Q (o :: rest) a) :=
  ⟨wpQuiet_step (fun K hK => h K (fun a' h' => hK a' h'.out))⟩
theorem hq_skip (hw : Region.wanted o (yielded ops a.tmps) = false) (h : Hq (wpQuiet P ops C Q rest (a.put o.dst undef))) : Hq (wpQuiet P ops C Q (o :: rest) a) :=
  ⟨by unfold wpQuiet; rw [if_neg (by rw [hw]; decide)]; exact h.out⟩
theorem hq_value (r : Value) (hw : Region.wanted o (yielded ops a.tmps) = true) (hr : ∀ w, C w → Oper.quietAt P o a C w r) (h : Hq (wpQuiet P ops C Q rest (a.put o.dst r))) : Hq (wpQuiet P ops C Q (o :: rest) a) :=
  ⟨by unfold wpQuiet; rw [if_pos hw]; exact ⟨r, hr, h.out⟩⟩
end
section
variable {P : Program} {ops : Array Oper} {rest : List Oper} {o : Oper} {a : Act} {w : World} {Q : Act → Prop}
open Go.Sort
theorem hq_load_at (hw : Region.wanted o (yielded ops a.tmps) = true) (ty e : TypeId) (x : Operand) (ho : o.op = .load ty x) (b off : Nat) (hx : a.eval x = .pointer (some ⟨b, off, none⟩)) {f : Nat → Nat} (hb : w.rangeAt b off (FC f).toList) (hlt : b < w.heap.size)
    (hu : P.underlying ty = some (.array 12 e)) (hi : (P.info? ty).map (·.size) = some 12)
    (h : Hq (wpQuiet P ops (fun w' => ∃ p : Regrown, w' = grow (redrawn w p.d) p.os) Q rest (a.put o.dst (.agg (FC f))))) : Hq (wpQuiet P ops (fun w' => ∃ p : Regrown, w' = grow (redrawn w p.d) p.os) Q (o :: rest) a) :=
  ⟨wpQuiet_load_atG hw ty e x ho b off hx hb hlt hu hi h.out⟩
theorem hq_load_celIn (hw : Region.wanted o (yielded ops a.tmps) = true) (ty : TypeId) (x : Operand) (ho : o.op = .load ty x) (b off : Nat) (hx : a.eval x = .pointer (some ⟨b, off, none⟩)) {i k : Nat → Nat} (hb : CelIn w b off i k) (hlt : b < w.heap.size) {d : TypeDesc} (hu : P.underlying ty = some d) (hd : d.isRow = true) (hi : (P.info? ty).map (·.size) = some 24)
    (h : Hq (wpQuiet P ops (fun w' => ∃ p : Regrown, w' = grow (redrawn w p.d) p.os) Q rest (a.put o.dst (.agg (CC i k))))) : Hq (wpQuiet P ops (fun w' => ∃ p : Regrown, w' = grow (redrawn w p.d) p.os) Q (o :: rest) a) := by
  refine hq_value _ hw ?_ h
  rintro w' ⟨p, rfl⟩
  have hb' : (grow (redrawn w p.d) p.os).rangeAt b off (CC i k).toList := range_below hb.range (below_regrown w p.d p.os) hlt
  unfold Oper.quietAt execOp
  simp only [ho, hx, Instr.loadAt, Instr.sureAddr, Sem.run_bind, Sem.run_pure, Result.andThen_ok, run_loadVar_mid _ b off ty (CC i k).toList d hb' hu hd hi]
  exact ⟨rfl, rfl⟩
end
end Go.Proofs.Ytjbjbdkmomkclaa
