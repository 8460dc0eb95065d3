/-
  No cell of these rows narrows 'for every input' (looked for: loops, veiled, ifaces, maps, wideKeys, modest, calm, conditions, laid).
  DERIVED. THE GIVEN ROWS OF THIS SEAT. 8 by the template 'for every input the law returns true; each argument reads behind the call as it read before'; 0 by the template 'total and deterministic' (their statements: YtemeamamdddfnaaTotals.lean).
  GIVEN WITH THE SEED: the statements are not yours to turn. If you find one false, say at which input.
  Laid BY PROGRAM, IN A SANDBOX (cutbox-rows.mjs): the forced cells as the released guide's own fill.sh prints them over the translation 5f340456896f42d2… (all of the seat's roots in one cut). By AI agents, Wed Nov 11 2026. No macro, syntax, notation, axiom, sorry.
-/
import Derived.Test.YtemeamamdddfnaaChecked
import GoSem.Claim
import GoSem.ClaimJoined
import GoSem.ClaimMapViews
import Derived.JoinedTies
import Derived.KernelRfl
namespace Go.Proofs.Ytemeamamdddfnaa
/- THE CELL 'sum', in the pinned program and in every row, IS THE sha256 OF THE DUMP (.gsa) THAT YtemeamamdddfnaaProg.lean LOADS. Nothing in Lean hashes anything: it is a label: what it is worth is what the hold of that sum in a sandbox is worth. -/
noncomputable def Try.pinned : Pinned := { name := "ytemeamamdddfnaa", sum := "5f340456896f42d2e9d4097342cc43965a336018114a7fc73333bd9dee62c709", checked := Try.checked }
namespace Rows
def none {H : Type} : Left H := { results := [], args := [] }

/-- 'laws.FnExactCodeName': WHATEVER THE INPUT: true; the input reads as it did. -/
def fnExactCodeNameSpec : ChangeSpec := { name := "fnExactCodeName", fn := fun _ => fun
  | [d] => { results := [.lit (.bool true)], args := [d] }
  | _ => none }
def fnExactCodeNameRow : OpenClaim := { program := "ytemeamamdddfnaa", sum := "5f340456896f42d2e9d4097342cc43965a336018114a7fc73333bd9dee62c709", func := "loop.example/g01340/laws.FnExactCodeName", spec := "fnExactCodeName", apart := false }
def FnExactCodeNameSaid : Prop := fnExactCodeNameRow.holds Try.pinned (OpenSpec.ofChange fnExactCodeNameSpec)

/-- ITS FALSE NEIGHBOUR: 'it returns false'. Refute it at one input. -/
def fnExactCodeNameWrong : ChangeSpec := { name := "fnExactCodeName", fn := fun _ => fun
  | [d] => { results := [.lit (.bool false)], args := [d] }
  | _ => none }
def FnExactCodeNameWrongFalsely : Prop := fnExactCodeNameRow.holds Try.pinned (OpenSpec.ofChange fnExactCodeNameWrong)

/-- 'laws.FnExactValidFrame': WHATEVER THE INPUT: true; the input reads as it did. -/
def fnExactValidFrameSpec : ChangeSpec := { name := "fnExactValidFrame", fn := fun _ => fun
  | [d] => { results := [.lit (.bool true)], args := [d] }
  | _ => none }
def fnExactValidFrameRow : OpenClaim := { program := "ytemeamamdddfnaa", sum := "5f340456896f42d2e9d4097342cc43965a336018114a7fc73333bd9dee62c709", func := "loop.example/g01340/laws.FnExactValidFrame", spec := "fnExactValidFrame", apart := false }
def FnExactValidFrameSaid : Prop := fnExactValidFrameRow.holds Try.pinned (OpenSpec.ofChange fnExactValidFrameSpec)

/-- ITS FALSE NEIGHBOUR: 'it returns false'. Refute it at one input. -/
def fnExactValidFrameWrong : ChangeSpec := { name := "fnExactValidFrame", fn := fun _ => fun
  | [d] => { results := [.lit (.bool false)], args := [d] }
  | _ => none }
def FnExactValidFrameWrongFalsely : Prop := fnExactValidFrameRow.holds Try.pinned (OpenSpec.ofChange fnExactValidFrameWrong)

/-- 'laws.FnExactHasDot': WHATEVER THE INPUT: true; the input reads as it did. -/
def fnExactHasDotSpec : ChangeSpec := { name := "fnExactHasDot", fn := fun _ => fun
  | [d1, d2, d3] => { results := [.lit (.bool true)], args := [d1, d2, d3] }
  | _ => none }
def fnExactHasDotRow : OpenClaim := { program := "ytemeamamdddfnaa", sum := "5f340456896f42d2e9d4097342cc43965a336018114a7fc73333bd9dee62c709", func := "loop.example/g01340/laws.FnExactHasDot", spec := "fnExactHasDot", apart := false }
def FnExactHasDotSaid : Prop := fnExactHasDotRow.holds Try.pinned (OpenSpec.ofChange fnExactHasDotSpec)

/-- ITS FALSE NEIGHBOUR: 'it returns false'. Refute it at one input. -/
def fnExactHasDotWrong : ChangeSpec := { name := "fnExactHasDot", fn := fun _ => fun
  | [d1, d2, d3] => { results := [.lit (.bool false)], args := [d1, d2, d3] }
  | _ => none }
def FnExactHasDotWrongFalsely : Prop := fnExactHasDotRow.holds Try.pinned (OpenSpec.ofChange fnExactHasDotWrong)

/-- 'laws.FnExactWithDot': WHATEVER THE INPUT: true; the input reads as it did. -/
def fnExactWithDotSpec : ChangeSpec := { name := "fnExactWithDot", fn := fun _ => fun
  | [d1, d2, d3, d4] => { results := [.lit (.bool true)], args := [d1, d2, d3, d4] }
  | _ => none }
def fnExactWithDotRow : OpenClaim := { program := "ytemeamamdddfnaa", sum := "5f340456896f42d2e9d4097342cc43965a336018114a7fc73333bd9dee62c709", func := "loop.example/g01340/laws.FnExactWithDot", spec := "fnExactWithDot", apart := false }
def FnExactWithDotSaid : Prop := fnExactWithDotRow.holds Try.pinned (OpenSpec.ofChange fnExactWithDotSpec)

/-- ITS FALSE NEIGHBOUR: 'it returns false'. Refute it at one input. -/
def fnExactWithDotWrong : ChangeSpec := { name := "fnExactWithDot", fn := fun _ => fun
  | [d1, d2, d3, d4] => { results := [.lit (.bool false)], args := [d1, d2, d3, d4] }
  | _ => none }
def FnExactWithDotWrongFalsely : Prop := fnExactWithDotRow.holds Try.pinned (OpenSpec.ofChange fnExactWithDotWrong)

/-- 'laws.FnExactCountDots': WHATEVER THE INPUT: true; the input reads as it did. -/
def fnExactCountDotsSpec : ChangeSpec := { name := "fnExactCountDots", fn := fun _ => fun
  | [d] => { results := [.lit (.bool true)], args := [d] }
  | _ => none }
def fnExactCountDotsRow : OpenClaim := { program := "ytemeamamdddfnaa", sum := "5f340456896f42d2e9d4097342cc43965a336018114a7fc73333bd9dee62c709", func := "loop.example/g01340/laws.FnExactCountDots", spec := "fnExactCountDots", apart := false }
def FnExactCountDotsSaid : Prop := fnExactCountDotsRow.holds Try.pinned (OpenSpec.ofChange fnExactCountDotsSpec)

/-- ITS FALSE NEIGHBOUR: 'it returns false'. Refute it at one input. -/
def fnExactCountDotsWrong : ChangeSpec := { name := "fnExactCountDots", fn := fun _ => fun
  | [d] => { results := [.lit (.bool false)], args := [d] }
  | _ => none }
def FnExactCountDotsWrongFalsely : Prop := fnExactCountDotsRow.holds Try.pinned (OpenSpec.ofChange fnExactCountDotsWrong)

/-- 'laws.FnExactFrameFrom': WHATEVER THE INPUT: true; the input reads as it did. -/
def fnExactFrameFromSpec : ChangeSpec := { name := "fnExactFrameFrom", fn := fun _ => fun
  | [d] => { results := [.lit (.bool true)], args := [d] }
  | _ => none }
def fnExactFrameFromRow : OpenClaim := { program := "ytemeamamdddfnaa", sum := "5f340456896f42d2e9d4097342cc43965a336018114a7fc73333bd9dee62c709", func := "loop.example/g01340/laws.FnExactFrameFrom", spec := "fnExactFrameFrom", apart := false }
def FnExactFrameFromSaid : Prop := fnExactFrameFromRow.holds Try.pinned (OpenSpec.ofChange fnExactFrameFromSpec)

/-- ITS FALSE NEIGHBOUR: 'it returns false'. Refute it at one input. -/
def fnExactFrameFromWrong : ChangeSpec := { name := "fnExactFrameFrom", fn := fun _ => fun
  | [d] => { results := [.lit (.bool false)], args := [d] }
  | _ => none }
def FnExactFrameFromWrongFalsely : Prop := fnExactFrameFromRow.holds Try.pinned (OpenSpec.ofChange fnExactFrameFromWrong)

/-- 'laws.FnExactMoveFrame': WHATEVER THE INPUT: true; the input reads as it did. -/
def fnExactMoveFrameSpec : ChangeSpec := { name := "fnExactMoveFrame", fn := fun _ => fun
  | [d1, d2, d3] => { results := [.lit (.bool true)], args := [d1, d2, d3] }
  | _ => none }
def fnExactMoveFrameRow : OpenClaim := { program := "ytemeamamdddfnaa", sum := "5f340456896f42d2e9d4097342cc43965a336018114a7fc73333bd9dee62c709", func := "loop.example/g01340/laws.FnExactMoveFrame", spec := "fnExactMoveFrame", unfollowed := true, recurses := true, apart := false }
def FnExactMoveFrameSaid : Prop := fnExactMoveFrameRow.holds Try.pinned (OpenSpec.ofChange fnExactMoveFrameSpec)

/-- ITS FALSE NEIGHBOUR: 'it returns false'. Refute it at one input. -/
def fnExactMoveFrameWrong : ChangeSpec := { name := "fnExactMoveFrame", fn := fun _ => fun
  | [d1, d2, d3] => { results := [.lit (.bool false)], args := [d1, d2, d3] }
  | _ => none }
def FnExactMoveFrameWrongFalsely : Prop := fnExactMoveFrameRow.holds Try.pinned (OpenSpec.ofChange fnExactMoveFrameWrong)

/-- 'laws.FnExactRollFrame': WHATEVER THE INPUT: true; the input reads as it did. -/
def fnExactRollFrameSpec : ChangeSpec := { name := "fnExactRollFrame", fn := fun _ => fun
  | [d1, d2, d3] => { results := [.lit (.bool true)], args := [d1, d2, d3] }
  | _ => none }
def fnExactRollFrameRow : OpenClaim := { program := "ytemeamamdddfnaa", sum := "5f340456896f42d2e9d4097342cc43965a336018114a7fc73333bd9dee62c709", func := "loop.example/g01340/laws.FnExactRollFrame", spec := "fnExactRollFrame", unfollowed := true, recurses := true, apart := false }
def FnExactRollFrameSaid : Prop := fnExactRollFrameRow.holds Try.pinned (OpenSpec.ofChange fnExactRollFrameSpec)

/-- ITS FALSE NEIGHBOUR: 'it returns false'. Refute it at one input. -/
def fnExactRollFrameWrong : ChangeSpec := { name := "fnExactRollFrame", fn := fun _ => fun
  | [d1, d2, d3] => { results := [.lit (.bool false)], args := [d1, d2, d3] }
  | _ => none }
def FnExactRollFrameWrongFalsely : Prop := fnExactRollFrameRow.holds Try.pinned (OpenSpec.ofChange fnExactRollFrameWrong)

/- THE SECOND FORM. 'bulk': how many values and letters a reading holds, each counted each time it is reached (what is shared counts as often as it is met; a slice's spare places count too). A statement '..UptoSaid' is the law's where the arguments, and the package variables that the reading takes, are together of bulk at most 1048576: NARROWER than '..Said'. Prove '..Said' where nothing that the law and all that it calls make is longer than what came in: it says more and counts as full. Else prove '..UptoSaid'. A law counts once. -/
mutual
def uptoBulk {H : Type} : DataW H → Nat
  | .lit (.string bytes) => bytes.length + 1
  | .lit _ => 1
  | .nil => 1
  | .ptr d => uptoBulk d + 1
  | .slice elems spare => uptoBulkAll elems + uptoBulkAll spare + 1
  | .agg parts => uptoBulkAll parts + 1
  | .iface _ d => uptoBulk d + 1
  | .map entries => uptoBulkEntries entries + 1
  | .held _ => 1
def uptoBulkAll {H : Type} : List (DataW H) → Nat
  | [] => 0
  | d :: r => uptoBulk d + uptoBulkAll r
def uptoBulkEntries {H : Type} : List (Lit × DataW H) → Nat
  | [] => 0
  | x :: r => uptoBulkEntry x + uptoBulkEntries r
def uptoBulkEntry {H : Type} : Lit × DataW H → Nat
  | (.string bytes, d) => bytes.length + uptoBulk d + 1
  | (_, d) => uptoBulk d + 1
 end
def uptoSmall : (H : Type) → List (DataW H) → Bool := fun _ ds => decide (uptoBulkAll ds ≤ 1048576)
def OpenSpec.upto (s : _root_.Go.ChangeSpec) : _root_.Go.OpenSpec := { _root_.Go.OpenSpec.ofChange s with cond := some uptoSmall }

/-- 'laws.FnExactCodeName', WHERE WHAT IT READS IS OF BULK AT MOST 1048576: true; the input reads as it did. -/
def fnExactCodeNameUptoRow : OpenClaim := { program := "ytemeamamdddfnaa", sum := "5f340456896f42d2e9d4097342cc43965a336018114a7fc73333bd9dee62c709", func := "loop.example/g01340/laws.FnExactCodeName", spec := "fnExactCodeName", apart := false, narrowed := true }
def FnExactCodeNameUptoSaid : Prop := fnExactCodeNameUptoRow.holds Try.pinned (OpenSpec.upto fnExactCodeNameSpec)

/-- 'laws.FnExactValidFrame', WHERE WHAT IT READS IS OF BULK AT MOST 1048576: true; the input reads as it did. -/
def fnExactValidFrameUptoRow : OpenClaim := { program := "ytemeamamdddfnaa", sum := "5f340456896f42d2e9d4097342cc43965a336018114a7fc73333bd9dee62c709", func := "loop.example/g01340/laws.FnExactValidFrame", spec := "fnExactValidFrame", apart := false, narrowed := true }
def FnExactValidFrameUptoSaid : Prop := fnExactValidFrameUptoRow.holds Try.pinned (OpenSpec.upto fnExactValidFrameSpec)

/-- 'laws.FnExactHasDot', WHERE WHAT IT READS IS OF BULK AT MOST 1048576: true; the input reads as it did. -/
def fnExactHasDotUptoRow : OpenClaim := { program := "ytemeamamdddfnaa", sum := "5f340456896f42d2e9d4097342cc43965a336018114a7fc73333bd9dee62c709", func := "loop.example/g01340/laws.FnExactHasDot", spec := "fnExactHasDot", apart := false, narrowed := true }
def FnExactHasDotUptoSaid : Prop := fnExactHasDotUptoRow.holds Try.pinned (OpenSpec.upto fnExactHasDotSpec)

/-- 'laws.FnExactWithDot', WHERE WHAT IT READS IS OF BULK AT MOST 1048576: true; the input reads as it did. -/
def fnExactWithDotUptoRow : OpenClaim := { program := "ytemeamamdddfnaa", sum := "5f340456896f42d2e9d4097342cc43965a336018114a7fc73333bd9dee62c709", func := "loop.example/g01340/laws.FnExactWithDot", spec := "fnExactWithDot", apart := false, narrowed := true }
def FnExactWithDotUptoSaid : Prop := fnExactWithDotUptoRow.holds Try.pinned (OpenSpec.upto fnExactWithDotSpec)

/-- 'laws.FnExactCountDots', WHERE WHAT IT READS IS OF BULK AT MOST 1048576: true; the input reads as it did. -/
def fnExactCountDotsUptoRow : OpenClaim := { program := "ytemeamamdddfnaa", sum := "5f340456896f42d2e9d4097342cc43965a336018114a7fc73333bd9dee62c709", func := "loop.example/g01340/laws.FnExactCountDots", spec := "fnExactCountDots", apart := false, narrowed := true }
def FnExactCountDotsUptoSaid : Prop := fnExactCountDotsUptoRow.holds Try.pinned (OpenSpec.upto fnExactCountDotsSpec)

/-- 'laws.FnExactFrameFrom', WHERE WHAT IT READS IS OF BULK AT MOST 1048576: true; the input reads as it did. -/
def fnExactFrameFromUptoRow : OpenClaim := { program := "ytemeamamdddfnaa", sum := "5f340456896f42d2e9d4097342cc43965a336018114a7fc73333bd9dee62c709", func := "loop.example/g01340/laws.FnExactFrameFrom", spec := "fnExactFrameFrom", apart := false, narrowed := true }
def FnExactFrameFromUptoSaid : Prop := fnExactFrameFromUptoRow.holds Try.pinned (OpenSpec.upto fnExactFrameFromSpec)

/-- 'laws.FnExactMoveFrame', WHERE WHAT IT READS IS OF BULK AT MOST 1048576: true; the input reads as it did. -/
def fnExactMoveFrameUptoRow : OpenClaim := { program := "ytemeamamdddfnaa", sum := "5f340456896f42d2e9d4097342cc43965a336018114a7fc73333bd9dee62c709", func := "loop.example/g01340/laws.FnExactMoveFrame", spec := "fnExactMoveFrame", unfollowed := true, recurses := true, apart := false, narrowed := true }
def FnExactMoveFrameUptoSaid : Prop := fnExactMoveFrameUptoRow.holds Try.pinned (OpenSpec.upto fnExactMoveFrameSpec)

/-- 'laws.FnExactRollFrame', WHERE WHAT IT READS IS OF BULK AT MOST 1048576: true; the input reads as it did. -/
def fnExactRollFrameUptoRow : OpenClaim := { program := "ytemeamamdddfnaa", sum := "5f340456896f42d2e9d4097342cc43965a336018114a7fc73333bd9dee62c709", func := "loop.example/g01340/laws.FnExactRollFrame", spec := "fnExactRollFrame", unfollowed := true, recurses := true, apart := false, narrowed := true }
def FnExactRollFrameUptoSaid : Prop := fnExactRollFrameUptoRow.holds Try.pinned (OpenSpec.upto fnExactRollFrameSpec)

end Rows
end Go.Proofs.Ytemeamamdddfnaa
