/- Go's '==' of cels and of layers. -/
import Derived.Test.YtpmlepgnokbpaaaRows
import Derived.Test.YtpmlepgnokbpaaaLay0
import Derived.Laws.StructEq
namespace Go.Proofs.Ytpmlepgnokbpaaa
open Go.RowKit
set_option linter.unusedVariables false
set_option linter.unusedSimpArgs false
def eqLy (l m : Ly) : Bool := (eqF l.i m.i && eqF l.k m.k) && (l.e == m.e && (l.s == m.s && l.h == m.h))
theorem eqLy_refl (l : Ly) : eqLy l l = true := by simp [eqLy, eqF_refl]
set_option maxRecDepth 100000 in
theorem run_equalIn_fr (w : World) (d : Nat) (f g : Nat → Nat) : (Op.equalIn (d + 2) 27 (.agg (FC f)) (.agg (FC g))).run Try.prog w = .ok (eqF f g) w := by
  obtain ⟨i0, hi0⟩ : ∃ i, Try.prog.info? 22 = some i := ⟨_, rfl⟩
  rw [run_equalIn_array w (d + 1) _ _ Try.underlying27 hi0, show Try.prog.cellsOf 22 = 1 by kernel_rfl]
  exact run_eqItems_fr w d f g (by kernel_rfl) Try.underlying22 _ (by simp)
theorem part_ink (i k : Nat → Nat) (w : World) : (part 27 (CC i k) 0).run Try.prog w = .ok (.agg (FC i)) w := by kernel_rfl
theorem part_cov (i k : Nat → Nat) (w : World) : (part 27 (CC i k) 12).run Try.prog w = .ok (.agg (FC k)) w := by kernel_rfl
theorem run_equalIn_cel (w : World) (d : Nat) (i k i2 k2 : Nat → Nat) : (Op.equalIn (d + 3) 29 (.agg (CC i k)) (.agg (CC i2 k2))).run Try.prog w = .ok (eqF i i2 && eqF k k2) w := by
  rw [run_equalIn_struct (P := Try.prog) w (d + 2) 29 _ _ (by kernel_rfl) (by kernel_rfl)]
  simp only [Program.fieldsOf, Try.underlying29, Op.eqFields]
  simp only [Sem.run_bind, part_ink, part_cov, Result.andThen_ok, run_equalIn_fr, Sem.run_ite]
  cases eqF i i2 <;> cases eqF k k2 <;> rfl
theorem part_layCel (l : Ly) (w : World) : (part 29 (LC l) 0).run Try.prog w = .ok (.agg (CC l.i l.k)) w := by kernel_rfl
theorem part_layE (l : Ly) (w : World) : (part 67 (LC l) 24).run Try.prog w = .ok (.int .i8 l.e) w := by kernel_rfl
theorem part_layS (l : Ly) (w : World) : (part 67 (LC l) 25).run Try.prog w = .ok (.int .i8 l.s) w := by kernel_rfl
theorem part_layH (l : Ly) (w : World) : (part 67 (LC l) 26).run Try.prog w = .ok (.int .i8 l.h) w := by kernel_rfl
theorem run_equalIn_lay (w : World) (d : Nat) (l m : Ly) : (Op.equalIn (d + 4) 86 (.agg (LC l)) (.agg (LC m))).run Try.prog w = .ok (eqLy l m) w := by
  rw [run_equalIn_struct (P := Try.prog) w (d + 3) 86 _ _ (by kernel_rfl) (by kernel_rfl)]
  simp only [Program.fieldsOf, Try.underlying86, Op.eqFields]
  simp only [Sem.run_bind, part_layCel, part_layE, part_layS, part_layH, Result.andThen_ok, run_equalIn_cel, run_equalIn_int _ _ _ _ _ _ _ Try.underlying67, Sem.run_ite]
  unfold eqLy
  cases eqF l.i m.i <;> cases eqF l.k m.k <;> cases l.e == m.e <;> cases l.s == m.s <;> cases l.h == m.h <;> rfl
theorem run_neq_lay (w : World) (l m : Ly) : (binOp .neq 86 (.agg (LC l)) (.agg (LC m))).run Try.prog w = .ok (.bool (!eqLy l m)) w := by
  rw [run_neq_struct, run_equalIn_lay]; rfl
theorem run_eql_cel (w : World) (i k i2 k2 : Nat → Nat) : (binOp .eql 29 (.agg (CC i k)) (.agg (CC i2 k2))).run Try.prog w = .ok (.bool (eqF i i2 && eqF k k2)) w := by
  rw [run_eql_struct, run_equalIn_cel]; rfl
end Go.Proofs.Ytpmlepgnokbpaaa
