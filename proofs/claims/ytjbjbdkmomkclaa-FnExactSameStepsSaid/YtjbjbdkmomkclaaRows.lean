/-
  No cell of these rows narrows 'for every input' (looked for: loops, veiled, ifaces, maps, wideKeys, modest, calm, conditions, laid).
  DERIVED. THE GIVEN ROWS OF THIS SEAT. 7 by the template 'for every input the law returns true; each argument reads behind the call as it read before'; 0 by the template 'total and deterministic' (their statements: YtjbjbdkmomkclaaTotals.lean).
  GIVEN WITH THE SEED: the statements are not yours to turn. If you find one false, say at which input.
  Laid BY PROGRAM, IN A SANDBOX (cutbox-rows.mjs): the forced cells as the released guide's own fill.sh prints them over the translation 5a5fac7cc918dd35… (all of the seat's roots in one cut). By AI agents, Wed Nov 11 2026. No macro, syntax, notation, axiom, sorry.
-/
import Derived.Test.YtjbjbdkmomkclaaChecked
import GoSem.Claim
import GoSem.ClaimJoined
import GoSem.ClaimMapViews
import Derived.JoinedTies
import Derived.KernelRfl
namespace Go.Proofs.Ytjbjbdkmomkclaa
/- THE CELL 'sum', in the pinned program and in every row, IS THE sha256 OF THE DUMP (.gsa) THAT YtjbjbdkmomkclaaProg.lean LOADS. Nothing in Lean hashes anything: it is a label: what it is worth is what the hold of that sum in a sandbox is worth. -/
noncomputable def Try.pinned : Pinned := { name := "ytjbjbdkmomkclaa", sum := "5a5fac7cc918dd35d2fa090064646d7aff4b0f7019dad857472601b69aa949a2", checked := Try.checked }
namespace Rows
def none {H : Type} : Left H := { results := [], args := [] }

/-- 'laws.FnExactValidSteps': WHATEVER THE INPUT: true; the input reads as it did. -/
def fnExactValidStepsSpec : ChangeSpec := { name := "fnExactValidSteps", fn := fun _ => fun
  | [d] => { results := [.lit (.bool true)], args := [d] }
  | _ => none }
def fnExactValidStepsRow : OpenClaim := { program := "ytjbjbdkmomkclaa", sum := "5a5fac7cc918dd35d2fa090064646d7aff4b0f7019dad857472601b69aa949a2", func := "loop.example/g01340/laws.FnExactValidSteps", spec := "fnExactValidSteps", apart := false }
def FnExactValidStepsSaid : Prop := fnExactValidStepsRow.holds Try.pinned (OpenSpec.ofChange fnExactValidStepsSpec)

/-- ITS FALSE NEIGHBOUR: 'it returns false'. Refute it at one input. -/
def fnExactValidStepsWrong : ChangeSpec := { name := "fnExactValidSteps", fn := fun _ => fun
  | [d] => { results := [.lit (.bool false)], args := [d] }
  | _ => none }
def FnExactValidStepsWrongFalsely : Prop := fnExactValidStepsRow.holds Try.pinned (OpenSpec.ofChange fnExactValidStepsWrong)

/-- 'laws.FnExactSameSteps': WHATEVER THE INPUT: true; the input reads as it did. -/
def fnExactSameStepsSpec : ChangeSpec := { name := "fnExactSameSteps", fn := fun _ => fun
  | [d1, d2] => { results := [.lit (.bool true)], args := [d1, d2] }
  | _ => none }
def fnExactSameStepsRow : OpenClaim := { program := "ytjbjbdkmomkclaa", sum := "5a5fac7cc918dd35d2fa090064646d7aff4b0f7019dad857472601b69aa949a2", func := "loop.example/g01340/laws.FnExactSameSteps", spec := "fnExactSameSteps", unfollowed := true, recurses := true, apart := false }
def FnExactSameStepsSaid : Prop := fnExactSameStepsRow.holds Try.pinned (OpenSpec.ofChange fnExactSameStepsSpec)

/-- ITS FALSE NEIGHBOUR: 'it returns false'. Refute it at one input. -/
def fnExactSameStepsWrong : ChangeSpec := { name := "fnExactSameSteps", fn := fun _ => fun
  | [d1, d2] => { results := [.lit (.bool false)], args := [d1, d2] }
  | _ => none }
def FnExactSameStepsWrongFalsely : Prop := fnExactSameStepsRow.holds Try.pinned (OpenSpec.ofChange fnExactSameStepsWrong)

/-- 'laws.FnExactDecodeSteps': WHATEVER THE INPUT: true; the input reads as it did. -/
def fnExactDecodeStepsSpec : ChangeSpec := { name := "fnExactDecodeSteps", fn := fun _ => fun
  | [d] => { results := [.lit (.bool true)], args := [d] }
  | _ => none }
def fnExactDecodeStepsRow : OpenClaim := { program := "ytjbjbdkmomkclaa", sum := "5a5fac7cc918dd35d2fa090064646d7aff4b0f7019dad857472601b69aa949a2", func := "loop.example/g01340/laws.FnExactDecodeSteps", spec := "fnExactDecodeSteps", unfollowed := true, recurses := true, apart := false }
def FnExactDecodeStepsSaid : Prop := fnExactDecodeStepsRow.holds Try.pinned (OpenSpec.ofChange fnExactDecodeStepsSpec)

/-- ITS FALSE NEIGHBOUR: 'it returns false'. Refute it at one input. -/
def fnExactDecodeStepsWrong : ChangeSpec := { name := "fnExactDecodeSteps", fn := fun _ => fun
  | [d] => { results := [.lit (.bool false)], args := [d] }
  | _ => none }
def FnExactDecodeStepsWrongFalsely : Prop := fnExactDecodeStepsRow.holds Try.pinned (OpenSpec.ofChange fnExactDecodeStepsWrong)

/-- 'laws.FnExactParityOf': WHATEVER THE INPUT: true; the input reads as it did. -/
def fnExactParityOfSpec : ChangeSpec := { name := "fnExactParityOf", fn := fun _ => fun
  | [d] => { results := [.lit (.bool true)], args := [d] }
  | _ => none }
def fnExactParityOfRow : OpenClaim := { program := "ytjbjbdkmomkclaa", sum := "5a5fac7cc918dd35d2fa090064646d7aff4b0f7019dad857472601b69aa949a2", func := "loop.example/g01340/laws.FnExactParityOf", spec := "fnExactParityOf", apart := false }
def FnExactParityOfSaid : Prop := fnExactParityOfRow.holds Try.pinned (OpenSpec.ofChange fnExactParityOfSpec)

/-- ITS FALSE NEIGHBOUR: 'it returns false'. Refute it at one input. -/
def fnExactParityOfWrong : ChangeSpec := { name := "fnExactParityOf", fn := fun _ => fun
  | [d] => { results := [.lit (.bool false)], args := [d] }
  | _ => none }
def FnExactParityOfWrongFalsely : Prop := fnExactParityOfRow.holds Try.pinned (OpenSpec.ofChange fnExactParityOfWrong)

/-- 'laws.FnExactRestorePage': WHATEVER THE INPUT: true; the input reads as it did. -/
def fnExactRestorePageSpec : ChangeSpec := { name := "fnExactRestorePage", fn := fun _ => fun
  | [d1, d2, d3] => { results := [.lit (.bool true)], args := [d1, d2, d3] }
  | _ => none }
def fnExactRestorePageRow : OpenClaim := { program := "ytjbjbdkmomkclaa", sum := "5a5fac7cc918dd35d2fa090064646d7aff4b0f7019dad857472601b69aa949a2", func := "loop.example/g01340/laws.FnExactRestorePage", spec := "fnExactRestorePage", apart := false }
def FnExactRestorePageSaid : Prop := fnExactRestorePageRow.holds Try.pinned (OpenSpec.ofChange fnExactRestorePageSpec)

/-- ITS FALSE NEIGHBOUR: 'it returns false'. Refute it at one input. -/
def fnExactRestorePageWrong : ChangeSpec := { name := "fnExactRestorePage", fn := fun _ => fun
  | [d1, d2, d3] => { results := [.lit (.bool false)], args := [d1, d2, d3] }
  | _ => none }
def FnExactRestorePageWrongFalsely : Prop := fnExactRestorePageRow.holds Try.pinned (OpenSpec.ofChange fnExactRestorePageWrong)

/-- 'laws.FnExactInkStrokes': WHATEVER THE INPUT: true; the input reads as it did. -/
def fnExactInkStrokesSpec : ChangeSpec := { name := "fnExactInkStrokes", fn := fun _ => fun
  | [d] => { results := [.lit (.bool true)], args := [d] }
  | _ => none }
def fnExactInkStrokesRow : OpenClaim := { program := "ytjbjbdkmomkclaa", sum := "5a5fac7cc918dd35d2fa090064646d7aff4b0f7019dad857472601b69aa949a2", func := "loop.example/g01340/laws.FnExactInkStrokes", spec := "fnExactInkStrokes", apart := false }
def FnExactInkStrokesSaid : Prop := fnExactInkStrokesRow.holds Try.pinned (OpenSpec.ofChange fnExactInkStrokesSpec)

/-- ITS FALSE NEIGHBOUR: 'it returns false'. Refute it at one input. -/
def fnExactInkStrokesWrong : ChangeSpec := { name := "fnExactInkStrokes", fn := fun _ => fun
  | [d] => { results := [.lit (.bool false)], args := [d] }
  | _ => none }
def FnExactInkStrokesWrongFalsely : Prop := fnExactInkStrokesRow.holds Try.pinned (OpenSpec.ofChange fnExactInkStrokesWrong)

/-- 'laws.FnExactCutBox': WHATEVER THE INPUT: true; the input reads as it did. -/
def fnExactCutBoxSpec : ChangeSpec := { name := "fnExactCutBox", fn := fun _ => fun
  | [d1, d2] => { results := [.lit (.bool true)], args := [d1, d2] }
  | _ => none }
def fnExactCutBoxRow : OpenClaim := { program := "ytjbjbdkmomkclaa", sum := "5a5fac7cc918dd35d2fa090064646d7aff4b0f7019dad857472601b69aa949a2", func := "loop.example/g01340/laws.FnExactCutBox", spec := "fnExactCutBox", apart := false }
def FnExactCutBoxSaid : Prop := fnExactCutBoxRow.holds Try.pinned (OpenSpec.ofChange fnExactCutBoxSpec)

/-- ITS FALSE NEIGHBOUR: 'it returns false'. Refute it at one input. -/
def fnExactCutBoxWrong : ChangeSpec := { name := "fnExactCutBox", fn := fun _ => fun
  | [d1, d2] => { results := [.lit (.bool false)], args := [d1, d2] }
  | _ => none }
def FnExactCutBoxWrongFalsely : Prop := fnExactCutBoxRow.holds Try.pinned (OpenSpec.ofChange fnExactCutBoxWrong)

/- THE SECOND FORM. 'bulk': how many values and letters a reading holds, each counted each time it is reached (what is shared counts as often as it is met; a slice's spare places count too). A statement '..UptoSaid' is the law's where the arguments, and the package variables that the reading takes, are together of bulk at most 1048576: NARROWER than '..Said'. Prove '..Said' where nothing that the law and all that it calls make is longer than what came in: it says more and counts as full. Else prove '..UptoSaid'. A law counts once. -/
mutual
def uptoBulk {H : Type} : DataW H → Nat
  | .lit (.string bytes) => bytes.length + 1
  | .lit _ => 1
  | .nil => 1
  | .ptr d => uptoBulk d + 1
  | .slice elems spare => uptoBulkAll elems + uptoBulkAll spare + 1
  | .agg parts => uptoBulkAll parts + 1
  | .iface _ d => uptoBulk d + 1
  | .map entries => uptoBulkEntries entries + 1
  | .held _ => 1
def uptoBulkAll {H : Type} : List (DataW H) → Nat
  | [] => 0
  | d :: r => uptoBulk d + uptoBulkAll r
def uptoBulkEntries {H : Type} : List (Lit × DataW H) → Nat
  | [] => 0
  | x :: r => uptoBulkEntry x + uptoBulkEntries r
def uptoBulkEntry {H : Type} : Lit × DataW H → Nat
  | (.string bytes, d) => bytes.length + uptoBulk d + 1
  | (_, d) => uptoBulk d + 1
 end
def uptoSmall : (H : Type) → List (DataW H) → Bool := fun _ ds => decide (uptoBulkAll ds ≤ 1048576)
def OpenSpec.upto (s : _root_.Go.ChangeSpec) : _root_.Go.OpenSpec := { _root_.Go.OpenSpec.ofChange s with cond := some uptoSmall }

/-- 'laws.FnExactValidSteps', WHERE WHAT IT READS IS OF BULK AT MOST 1048576: true; the input reads as it did. -/
def fnExactValidStepsUptoRow : OpenClaim := { program := "ytjbjbdkmomkclaa", sum := "5a5fac7cc918dd35d2fa090064646d7aff4b0f7019dad857472601b69aa949a2", func := "loop.example/g01340/laws.FnExactValidSteps", spec := "fnExactValidSteps", apart := false, narrowed := true }
def FnExactValidStepsUptoSaid : Prop := fnExactValidStepsUptoRow.holds Try.pinned (OpenSpec.upto fnExactValidStepsSpec)

/-- 'laws.FnExactSameSteps', WHERE WHAT IT READS IS OF BULK AT MOST 1048576: true; the input reads as it did. -/
def fnExactSameStepsUptoRow : OpenClaim := { program := "ytjbjbdkmomkclaa", sum := "5a5fac7cc918dd35d2fa090064646d7aff4b0f7019dad857472601b69aa949a2", func := "loop.example/g01340/laws.FnExactSameSteps", spec := "fnExactSameSteps", unfollowed := true, recurses := true, apart := false, narrowed := true }
def FnExactSameStepsUptoSaid : Prop := fnExactSameStepsUptoRow.holds Try.pinned (OpenSpec.upto fnExactSameStepsSpec)

/-- 'laws.FnExactDecodeSteps', WHERE WHAT IT READS IS OF BULK AT MOST 1048576: true; the input reads as it did. -/
def fnExactDecodeStepsUptoRow : OpenClaim := { program := "ytjbjbdkmomkclaa", sum := "5a5fac7cc918dd35d2fa090064646d7aff4b0f7019dad857472601b69aa949a2", func := "loop.example/g01340/laws.FnExactDecodeSteps", spec := "fnExactDecodeSteps", unfollowed := true, recurses := true, apart := false, narrowed := true }
def FnExactDecodeStepsUptoSaid : Prop := fnExactDecodeStepsUptoRow.holds Try.pinned (OpenSpec.upto fnExactDecodeStepsSpec)

/-- 'laws.FnExactParityOf', WHERE WHAT IT READS IS OF BULK AT MOST 1048576: true; the input reads as it did. -/
def fnExactParityOfUptoRow : OpenClaim := { program := "ytjbjbdkmomkclaa", sum := "5a5fac7cc918dd35d2fa090064646d7aff4b0f7019dad857472601b69aa949a2", func := "loop.example/g01340/laws.FnExactParityOf", spec := "fnExactParityOf", apart := false, narrowed := true }
def FnExactParityOfUptoSaid : Prop := fnExactParityOfUptoRow.holds Try.pinned (OpenSpec.upto fnExactParityOfSpec)

/-- 'laws.FnExactRestorePage', WHERE WHAT IT READS IS OF BULK AT MOST 1048576: true; the input reads as it did. -/
def fnExactRestorePageUptoRow : OpenClaim := { program := "ytjbjbdkmomkclaa", sum := "5a5fac7cc918dd35d2fa090064646d7aff4b0f7019dad857472601b69aa949a2", func := "loop.example/g01340/laws.FnExactRestorePage", spec := "fnExactRestorePage", apart := false, narrowed := true }
def FnExactRestorePageUptoSaid : Prop := fnExactRestorePageUptoRow.holds Try.pinned (OpenSpec.upto fnExactRestorePageSpec)

/-- 'laws.FnExactInkStrokes', WHERE WHAT IT READS IS OF BULK AT MOST 1048576: true; the input reads as it did. -/
def fnExactInkStrokesUptoRow : OpenClaim := { program := "ytjbjbdkmomkclaa", sum := "5a5fac7cc918dd35d2fa090064646d7aff4b0f7019dad857472601b69aa949a2", func := "loop.example/g01340/laws.FnExactInkStrokes", spec := "fnExactInkStrokes", apart := false, narrowed := true }
def FnExactInkStrokesUptoSaid : Prop := fnExactInkStrokesUptoRow.holds Try.pinned (OpenSpec.upto fnExactInkStrokesSpec)

/-- 'laws.FnExactCutBox', WHERE WHAT IT READS IS OF BULK AT MOST 1048576: true; the input reads as it did. -/
def fnExactCutBoxUptoRow : OpenClaim := { program := "ytjbjbdkmomkclaa", sum := "5a5fac7cc918dd35d2fa090064646d7aff4b0f7019dad857472601b69aa949a2", func := "loop.example/g01340/laws.FnExactCutBox", spec := "fnExactCutBox", apart := false, narrowed := true }
def FnExactCutBoxUptoSaid : Prop := fnExactCutBoxUptoRow.holds Try.pinned (OpenSpec.upto fnExactCutBoxSpec)

end Rows
end Go.Proofs.Ytjbjbdkmomkclaa
