/- The law FnExactSameSteps: whatever the input, it returns true, and the arguments read as before. No condition. -/
import Derived.Test.YtjbjbdkmomkclaaRows
import Derived.Test.YtjbjbdkmomkclaaWFnExactSameSteps
import Derived.ProofKit
import Derived.OpenShut
import Derived.Test.YtjbjbdkmomkclaaOpenStp
import Derived.Test.YtjbjbdkmomkclaaOpenL
namespace Go.Proofs.Ytjbjbdkmomkclaa.fnExactSameSteps
set_option maxRecDepth 100000
open Go.ChangeShapes Go.WideShapes Go.ChangeAt Go.RowKit
set_option linter.unusedVariables false
theorem own : ownKnob Try.prog.godebug = none := by kernel_rfl
theorem laidOut : laidOutB Try.prog = true := by kernel_rfl
set_option maxRecDepth 100000 in
set_option maxHeartbeats 1000000 in
theorem lifted (os : Os) (started : os.Started) (H : Type) (enc : TypeId × Value → H) :
    ReturnsInHanded {} Try.checked os 4 .any (Rows.fnExactSameStepsSpec.pre6 enc Try.prog Try.f4 Rows.fnExactSameStepsRow.domain false) (Rows.fnExactSameStepsSpec.post enc Try.prog Try.f4 false true false false) := by
  refine returnsInHanded_of_change (C := Try.checked) own started (by kernel_rfl) Try.func4
    (ChangeSpec.witness6 (enc := enc) (C := Try.checked) false ⟨#[], #[.slice none 0 0, .slice none 0 0], []⟩ 8 (by kernel_rfl) (by kernel_rfl) (by kernel_rfl) (by kernel_rfl)) ?_
  intro W base args ds gs before hval0 hW hcnd _
  have hval : ∀ (j : Nat) t v, Try.f4.params[j]? = some t → args[j]? = some v → Value.okWide Try.prog W .any base t v := hval0
  have hW' := hW
  obtain ⟨p, q, hA0, hV, rfl, hfz, hnd⟩ := hW
  have hA : DataW.TrodAll enc Try.prog W 0 (fun _ => true) true Try.f4.params.toList args.toList ds p := hA0
  rw [Try.params4] at hA hval
  obtain ⟨v0, vs0, d0, ds0, p0, q0, hargs, rfl, rfl, h0, r0⟩ := trodAll_cons hA
  obtain ⟨v1, vs1, d1, ds1, p1, q1, rfl, rfl, rfl, h1, r1⟩ := trodAll_cons r0
  obtain ⟨rfl, rfl, rfl⟩ := trodAll_nil r1
  obtain rfl : args = #[v0, v1] := by cases args; simp_all
  obtain ⟨rfl, rfl⟩ := trodVars_none hV
  have k0 := h0
  have lt0 : ∀ x ∈ p0, x.block < W.heap.size := by obtain ⟨m, hm⟩ := k0; exact DataW.trod_lt m _ _ _ hm
  have k1 := h1
  have lt1 : ∀ x ∈ p1, x.block < W.heap.size := by obtain ⟨m, hm⟩ := k1; exact DataW.trod_lt m _ _ _ hm
  obtain ⟨xa0, xl0, xc0, rfl⟩ := Go.WideShapes.okWide_slice Try.underlying22 (hval 0 22 v0 rfl rfl)
  obtain ⟨rr0, sr0, hr0⟩ := open_list (E := eSt) (okRaw W) Try.underlying22 (by kernel_rfl) (by decide) (fun n cs y hl hh => elem_stp Try.underlying67 ⟨rfl, rfl⟩ ⟨rfl, rfl⟩ ⟨rfl, rfl⟩ ⟨rfl, rfl⟩ ⟨rfl, rfl⟩ Try.underlying57 (by kernel_rfl) Try.underlying65 (by kernel_rfl) (by kernel_rfl) (fun n cs y hl hh => elem_chg Try.underlying131 ⟨rfl, rfl⟩ ⟨rfl, rfl⟩ Try.underlying57 (by kernel_rfl) Try.underlying39 (by kernel_rfl) n cs y hl hh) n cs y hl hh) ⟨_, rfl, rfl⟩ h0
  obtain ⟨a0, s0, w0⟩ := sts_of_raws sr0 hr0
  obtain ⟨xa1, xl1, xc1, rfl⟩ := Go.WideShapes.okWide_slice Try.underlying22 (hval 1 22 v1 rfl rfl)
  obtain ⟨rr1, sr1, hr1⟩ := open_list (E := eSt) (okRaw W) Try.underlying22 (by kernel_rfl) (by decide) (fun n cs y hl hh => elem_stp Try.underlying67 ⟨rfl, rfl⟩ ⟨rfl, rfl⟩ ⟨rfl, rfl⟩ ⟨rfl, rfl⟩ ⟨rfl, rfl⟩ Try.underlying57 (by kernel_rfl) Try.underlying65 (by kernel_rfl) (by kernel_rfl) (fun n cs y hl hh => elem_chg Try.underlying131 ⟨rfl, rfl⟩ ⟨rfl, rfl⟩ Try.underlying57 (by kernel_rfl) Try.underlying39 (by kernel_rfl) n cs y hl hh) n cs y hl hh) ⟨_, rfl, rfl⟩ h1
  obtain ⟨a1, s1, w1⟩ := sts_of_raws sr1 hr1
  clear hA0 hval0
  refine (wFnExactSameSteps.walk _ a0 _ a1 w0 w1 W s0 s1).mono fun e W' ⟨he, bel⟩ => ?_
  subst he
  exact ⟨_, rfl, _, _, _, [], _, [], hW', trodAll_mk1 (shut_bool Try.underlying4 _), (trodAll_cons_mk (Below.trod laidOut (by kernel_rfl) (of_decide_eq_true (by kernel_rfl)) k0 bel lt0) (trodAll_cons_mk (Below.trod laidOut (by kernel_rfl) (of_decide_eq_true (by kernel_rfl)) k1 bel lt1) trodAll_mk0)), rfl, bel.frame _, fun h => by cases h⟩
theorem over : Rows.fnExactSameStepsRow.holds Try.pinned (OpenSpec.ofChange Rows.fnExactSameStepsSpec) :=
  OpenClaim.holds_of_wide 4 Try.f4 rfl rfl rfl rfl rfl rfl rfl ⟨rfl, rfl, rfl, rfl, rfl⟩ rfl rfl rfl rfl rfl (by kernel_rfl) Try.func4 (by kernel_rfl)
    (of_decide_eq_true (by kernel_rfl)) (by unfold Func.isWrapper; first | (rw [if_pos (by decide +kernel)]; kernel_rfl) | (rw [if_neg (by decide +kernel)]; exact ⟨rfl, rfl⟩))
    (fun os started H enc _ => lifted os started H enc)
theorem proved : Rows.FnExactSameStepsSaid :=
  over
end Go.Proofs.Ytjbjbdkmomkclaa.fnExactSameSteps
