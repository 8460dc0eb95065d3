/-
  No cell of these rows narrows 'for every input' (looked for: loops, veiled, ifaces, maps, wideKeys, modest, calm, conditions, laid).
  DERIVED. THE GIVEN ROWS OF THIS SEAT. 12 by the template 'for every input the law returns true; each argument reads behind the call as it read before'; 0 by the template 'total and deterministic' (their statements: YtpmlepgnokbpaaaTotals.lean).
  GIVEN WITH THE SEED: the statements are not yours to turn. If you find one false, say at which input.
  Laid BY PROGRAM, IN A SANDBOX (cutbox-rows.mjs): the forced cells as the released guide's own fill.sh prints them over the translation d9cf59582bdf53e7… (all of the seat's roots in one cut). By AI agents, Wed Nov 11 2026. No macro, syntax, notation, axiom, sorry.
-/
import Derived.Test.YtpmlepgnokbpaaaChecked
import GoSem.Claim
import GoSem.ClaimJoined
import GoSem.ClaimMapViews
import Derived.JoinedTies
import Derived.KernelRfl
namespace Go.Proofs.Ytpmlepgnokbpaaa
/- THE CELL 'sum', in the pinned program and in every row, IS THE sha256 OF THE DUMP (.gsa) THAT YtpmlepgnokbpaaaProg.lean LOADS. Nothing in Lean hashes anything: it is a label: what it is worth is what the hold of that sum in a sandbox is worth. -/
noncomputable def Try.pinned : Pinned := { name := "ytpmlepgnokbpaaa", sum := "d9cf59582bdf53e7dca4a8d119e7c4a3cb80bb6b5113014401287ea0e7c53f6a", checked := Try.checked }
namespace Rows
def none {H : Type} : Left H := { results := [], args := [] }

/-- 'laws.FnExactValidCel': WHATEVER THE INPUT: true; the input reads as it did. -/
def fnExactValidCelSpec : ChangeSpec := { name := "fnExactValidCel", fn := fun _ => fun
  | [d] => { results := [.lit (.bool true)], args := [d] }
  | _ => none }
def fnExactValidCelRow : OpenClaim := { program := "ytpmlepgnokbpaaa", sum := "d9cf59582bdf53e7dca4a8d119e7c4a3cb80bb6b5113014401287ea0e7c53f6a", func := "loop.example/g01340/laws.FnExactValidCel", spec := "fnExactValidCel", apart := false }
def FnExactValidCelSaid : Prop := fnExactValidCelRow.holds Try.pinned (OpenSpec.ofChange fnExactValidCelSpec)

/-- ITS FALSE NEIGHBOUR: 'it returns false'. Refute it at one input. -/
def fnExactValidCelWrong : ChangeSpec := { name := "fnExactValidCel", fn := fun _ => fun
  | [d] => { results := [.lit (.bool false)], args := [d] }
  | _ => none }
def FnExactValidCelWrongFalsely : Prop := fnExactValidCelRow.holds Try.pinned (OpenSpec.ofChange fnExactValidCelWrong)

/-- 'laws.FnExactValidScene': WHATEVER THE INPUT: true; the input reads as it did. -/
def fnExactValidSceneSpec : ChangeSpec := { name := "fnExactValidScene", fn := fun _ => fun
  | [d] => { results := [.lit (.bool true)], args := [d] }
  | _ => none }
def fnExactValidSceneRow : OpenClaim := { program := "ytpmlepgnokbpaaa", sum := "d9cf59582bdf53e7dca4a8d119e7c4a3cb80bb6b5113014401287ea0e7c53f6a", func := "loop.example/g01340/laws.FnExactValidScene", spec := "fnExactValidScene", apart := false }
def FnExactValidSceneSaid : Prop := fnExactValidSceneRow.holds Try.pinned (OpenSpec.ofChange fnExactValidSceneSpec)

/-- ITS FALSE NEIGHBOUR: 'it returns false'. Refute it at one input. -/
def fnExactValidSceneWrong : ChangeSpec := { name := "fnExactValidScene", fn := fun _ => fun
  | [d] => { results := [.lit (.bool false)], args := [d] }
  | _ => none }
def FnExactValidSceneWrongFalsely : Prop := fnExactValidSceneRow.holds Try.pinned (OpenSpec.ofChange fnExactValidSceneWrong)

/-- 'laws.FnExactSameScene': WHATEVER THE INPUT: true; the input reads as it did. -/
def fnExactSameSceneSpec : ChangeSpec := { name := "fnExactSameScene", fn := fun _ => fun
  | [d1, d2] => { results := [.lit (.bool true)], args := [d1, d2] }
  | _ => none }
def fnExactSameSceneRow : OpenClaim := { program := "ytpmlepgnokbpaaa", sum := "d9cf59582bdf53e7dca4a8d119e7c4a3cb80bb6b5113014401287ea0e7c53f6a", func := "loop.example/g01340/laws.FnExactSameScene", spec := "fnExactSameScene", apart := false }
def FnExactSameSceneSaid : Prop := fnExactSameSceneRow.holds Try.pinned (OpenSpec.ofChange fnExactSameSceneSpec)

/-- ITS FALSE NEIGHBOUR: 'it returns false'. Refute it at one input. -/
def fnExactSameSceneWrong : ChangeSpec := { name := "fnExactSameScene", fn := fun _ => fun
  | [d1, d2] => { results := [.lit (.bool false)], args := [d1, d2] }
  | _ => none }
def FnExactSameSceneWrongFalsely : Prop := fnExactSameSceneRow.holds Try.pinned (OpenSpec.ofChange fnExactSameSceneWrong)

/-- 'laws.FnExactCelFrom': WHATEVER THE INPUT: true; the input reads as it did. -/
def fnExactCelFromSpec : ChangeSpec := { name := "fnExactCelFrom", fn := fun _ => fun
  | [d1, d2] => { results := [.lit (.bool true)], args := [d1, d2] }
  | _ => none }
def fnExactCelFromRow : OpenClaim := { program := "ytpmlepgnokbpaaa", sum := "d9cf59582bdf53e7dca4a8d119e7c4a3cb80bb6b5113014401287ea0e7c53f6a", func := "loop.example/g01340/laws.FnExactCelFrom", spec := "fnExactCelFrom", unfollowed := true, recurses := true, apart := false }
def FnExactCelFromSaid : Prop := fnExactCelFromRow.holds Try.pinned (OpenSpec.ofChange fnExactCelFromSpec)

/-- ITS FALSE NEIGHBOUR: 'it returns false'. Refute it at one input. -/
def fnExactCelFromWrong : ChangeSpec := { name := "fnExactCelFrom", fn := fun _ => fun
  | [d1, d2] => { results := [.lit (.bool false)], args := [d1, d2] }
  | _ => none }
def FnExactCelFromWrongFalsely : Prop := fnExactCelFromRow.holds Try.pinned (OpenSpec.ofChange fnExactCelFromWrong)

/-- 'laws.FnExactMoveCel': WHATEVER THE INPUT: true; the input reads as it did. -/
def fnExactMoveCelSpec : ChangeSpec := { name := "fnExactMoveCel", fn := fun _ => fun
  | [d1, d2, d3] => { results := [.lit (.bool true)], args := [d1, d2, d3] }
  | _ => none }
def fnExactMoveCelRow : OpenClaim := { program := "ytpmlepgnokbpaaa", sum := "d9cf59582bdf53e7dca4a8d119e7c4a3cb80bb6b5113014401287ea0e7c53f6a", func := "loop.example/g01340/laws.FnExactMoveCel", spec := "fnExactMoveCel", apart := false }
def FnExactMoveCelSaid : Prop := fnExactMoveCelRow.holds Try.pinned (OpenSpec.ofChange fnExactMoveCelSpec)

/-- ITS FALSE NEIGHBOUR: 'it returns false'. Refute it at one input. -/
def fnExactMoveCelWrong : ChangeSpec := { name := "fnExactMoveCel", fn := fun _ => fun
  | [d1, d2, d3] => { results := [.lit (.bool false)], args := [d1, d2, d3] }
  | _ => none }
def FnExactMoveCelWrongFalsely : Prop := fnExactMoveCelRow.holds Try.pinned (OpenSpec.ofChange fnExactMoveCelWrong)

/-- 'laws.FnExactLayOver': WHATEVER THE INPUT: true; the input reads as it did. -/
def fnExactLayOverSpec : ChangeSpec := { name := "fnExactLayOver", fn := fun _ => fun
  | [d1, d2] => { results := [.lit (.bool true)], args := [d1, d2] }
  | _ => none }
def fnExactLayOverRow : OpenClaim := { program := "ytpmlepgnokbpaaa", sum := "d9cf59582bdf53e7dca4a8d119e7c4a3cb80bb6b5113014401287ea0e7c53f6a", func := "loop.example/g01340/laws.FnExactLayOver", spec := "fnExactLayOver", apart := false }
def FnExactLayOverSaid : Prop := fnExactLayOverRow.holds Try.pinned (OpenSpec.ofChange fnExactLayOverSpec)

/-- ITS FALSE NEIGHBOUR: 'it returns false'. Refute it at one input. -/
def fnExactLayOverWrong : ChangeSpec := { name := "fnExactLayOver", fn := fun _ => fun
  | [d1, d2] => { results := [.lit (.bool false)], args := [d1, d2] }
  | _ => none }
def FnExactLayOverWrongFalsely : Prop := fnExactLayOverRow.holds Try.pinned (OpenSpec.ofChange fnExactLayOverWrong)

/-- 'laws.FnExactShownBy': WHATEVER THE INPUT: true; the input reads as it did. -/
def fnExactShownBySpec : ChangeSpec := { name := "fnExactShownBy", fn := fun _ => fun
  | [d] => { results := [.lit (.bool true)], args := [d] }
  | _ => none }
def fnExactShownByRow : OpenClaim := { program := "ytpmlepgnokbpaaa", sum := "d9cf59582bdf53e7dca4a8d119e7c4a3cb80bb6b5113014401287ea0e7c53f6a", func := "loop.example/g01340/laws.FnExactShownBy", spec := "fnExactShownBy", apart := false }
def FnExactShownBySaid : Prop := fnExactShownByRow.holds Try.pinned (OpenSpec.ofChange fnExactShownBySpec)

/-- ITS FALSE NEIGHBOUR: 'it returns false'. Refute it at one input. -/
def fnExactShownByWrong : ChangeSpec := { name := "fnExactShownBy", fn := fun _ => fun
  | [d] => { results := [.lit (.bool false)], args := [d] }
  | _ => none }
def FnExactShownByWrongFalsely : Prop := fnExactShownByRow.holds Try.pinned (OpenSpec.ofChange fnExactShownByWrong)

/-- 'laws.FnExactOffsetAt': WHATEVER THE INPUT: true; the input reads as it did. -/
def fnExactOffsetAtSpec : ChangeSpec := { name := "fnExactOffsetAt", fn := fun _ => fun
  | [d1, d2, d3, d4] => { results := [.lit (.bool true)], args := [d1, d2, d3, d4] }
  | _ => none }
def fnExactOffsetAtRow : OpenClaim := { program := "ytpmlepgnokbpaaa", sum := "d9cf59582bdf53e7dca4a8d119e7c4a3cb80bb6b5113014401287ea0e7c53f6a", func := "loop.example/g01340/laws.FnExactOffsetAt", spec := "fnExactOffsetAt", apart := false }
def FnExactOffsetAtSaid : Prop := fnExactOffsetAtRow.holds Try.pinned (OpenSpec.ofChange fnExactOffsetAtSpec)

/-- ITS FALSE NEIGHBOUR: 'it returns false'. Refute it at one input. -/
def fnExactOffsetAtWrong : ChangeSpec := { name := "fnExactOffsetAt", fn := fun _ => fun
  | [d1, d2, d3, d4] => { results := [.lit (.bool false)], args := [d1, d2, d3, d4] }
  | _ => none }
def FnExactOffsetAtWrongFalsely : Prop := fnExactOffsetAtRow.holds Try.pinned (OpenSpec.ofChange fnExactOffsetAtWrong)

/-- 'laws.FnExactShowScene': WHATEVER THE INPUT: true; the input reads as it did. -/
def fnExactShowSceneSpec : ChangeSpec := { name := "fnExactShowScene", fn := fun _ => fun
  | [d1, d2, d3] => { results := [.lit (.bool true)], args := [d1, d2, d3] }
  | _ => none }
def fnExactShowSceneRow : OpenClaim := { program := "ytpmlepgnokbpaaa", sum := "d9cf59582bdf53e7dca4a8d119e7c4a3cb80bb6b5113014401287ea0e7c53f6a", func := "loop.example/g01340/laws.FnExactShowScene", spec := "fnExactShowScene", unfollowed := true, recurses := true, apart := false }
def FnExactShowSceneSaid : Prop := fnExactShowSceneRow.holds Try.pinned (OpenSpec.ofChange fnExactShowSceneSpec)

/-- ITS FALSE NEIGHBOUR: 'it returns false'. Refute it at one input. -/
def fnExactShowSceneWrong : ChangeSpec := { name := "fnExactShowScene", fn := fun _ => fun
  | [d1, d2, d3] => { results := [.lit (.bool false)], args := [d1, d2, d3] }
  | _ => none }
def FnExactShowSceneWrongFalsely : Prop := fnExactShowSceneRow.holds Try.pinned (OpenSpec.ofChange fnExactShowSceneWrong)

/-- 'laws.FnExactFlattenScene': WHATEVER THE INPUT: true; the input reads as it did. -/
def fnExactFlattenSceneSpec : ChangeSpec := { name := "fnExactFlattenScene", fn := fun _ => fun
  | [d1, d2, d3] => { results := [.lit (.bool true)], args := [d1, d2, d3] }
  | _ => none }
def fnExactFlattenSceneRow : OpenClaim := { program := "ytpmlepgnokbpaaa", sum := "d9cf59582bdf53e7dca4a8d119e7c4a3cb80bb6b5113014401287ea0e7c53f6a", func := "loop.example/g01340/laws.FnExactFlattenScene", spec := "fnExactFlattenScene", unfollowed := true, recurses := true, apart := false }
def FnExactFlattenSceneSaid : Prop := fnExactFlattenSceneRow.holds Try.pinned (OpenSpec.ofChange fnExactFlattenSceneSpec)

/-- ITS FALSE NEIGHBOUR: 'it returns false'. Refute it at one input. -/
def fnExactFlattenSceneWrong : ChangeSpec := { name := "fnExactFlattenScene", fn := fun _ => fun
  | [d1, d2, d3] => { results := [.lit (.bool false)], args := [d1, d2, d3] }
  | _ => none }
def FnExactFlattenSceneWrongFalsely : Prop := fnExactFlattenSceneRow.holds Try.pinned (OpenSpec.ofChange fnExactFlattenSceneWrong)

/-- 'laws.FnExactPanScene': WHATEVER THE INPUT: true; the input reads as it did. -/
def fnExactPanSceneSpec : ChangeSpec := { name := "fnExactPanScene", fn := fun _ => fun
  | [d1, d2, d3, d4, d5, d6] => { results := [.lit (.bool true)], args := [d1, d2, d3, d4, d5, d6] }
  | _ => none }
def fnExactPanSceneRow : OpenClaim := { program := "ytpmlepgnokbpaaa", sum := "d9cf59582bdf53e7dca4a8d119e7c4a3cb80bb6b5113014401287ea0e7c53f6a", func := "loop.example/g01340/laws.FnExactPanScene", spec := "fnExactPanScene", unfollowed := true, recurses := true, apart := false }
def FnExactPanSceneSaid : Prop := fnExactPanSceneRow.holds Try.pinned (OpenSpec.ofChange fnExactPanSceneSpec)

/-- ITS FALSE NEIGHBOUR: 'it returns false'. Refute it at one input. -/
def fnExactPanSceneWrong : ChangeSpec := { name := "fnExactPanScene", fn := fun _ => fun
  | [d1, d2, d3, d4, d5, d6] => { results := [.lit (.bool false)], args := [d1, d2, d3, d4, d5, d6] }
  | _ => none }
def FnExactPanSceneWrongFalsely : Prop := fnExactPanSceneRow.holds Try.pinned (OpenSpec.ofChange fnExactPanSceneWrong)

/-- 'laws.FnExactValidPart': WHATEVER THE INPUT: true; the input reads as it did. -/
def fnExactValidPartSpec : ChangeSpec := { name := "fnExactValidPart", fn := fun _ => fun
  | [d] => { results := [.lit (.bool true)], args := [d] }
  | _ => none }
def fnExactValidPartRow : OpenClaim := { program := "ytpmlepgnokbpaaa", sum := "d9cf59582bdf53e7dca4a8d119e7c4a3cb80bb6b5113014401287ea0e7c53f6a", func := "loop.example/g01340/laws.FnExactValidPart", spec := "fnExactValidPart", apart := false }
def FnExactValidPartSaid : Prop := fnExactValidPartRow.holds Try.pinned (OpenSpec.ofChange fnExactValidPartSpec)

/-- ITS FALSE NEIGHBOUR: 'it returns false'. Refute it at one input. -/
def fnExactValidPartWrong : ChangeSpec := { name := "fnExactValidPart", fn := fun _ => fun
  | [d] => { results := [.lit (.bool false)], args := [d] }
  | _ => none }
def FnExactValidPartWrongFalsely : Prop := fnExactValidPartRow.holds Try.pinned (OpenSpec.ofChange fnExactValidPartWrong)

/- THE SECOND FORM. 'bulk': how many values and letters a reading holds, each counted each time it is reached (what is shared counts as often as it is met; a slice's spare places count too). A statement '..UptoSaid' is the law's where the arguments, and the package variables that the reading takes, are together of bulk at most 1048576: NARROWER than '..Said'. Prove '..Said' where nothing that the law and all that it calls make is longer than what came in: it says more and counts as full. Else prove '..UptoSaid'. A law counts once. -/
mutual
def uptoBulk {H : Type} : DataW H → Nat
  | .lit (.string bytes) => bytes.length + 1
  | .lit _ => 1
  | .nil => 1
  | .ptr d => uptoBulk d + 1
  | .slice elems spare => uptoBulkAll elems + uptoBulkAll spare + 1
  | .agg parts => uptoBulkAll parts + 1
  | .iface _ d => uptoBulk d + 1
  | .map entries => uptoBulkEntries entries + 1
  | .held _ => 1
def uptoBulkAll {H : Type} : List (DataW H) → Nat
  | [] => 0
  | d :: r => uptoBulk d + uptoBulkAll r
def uptoBulkEntries {H : Type} : List (Lit × DataW H) → Nat
  | [] => 0
  | x :: r => uptoBulkEntry x + uptoBulkEntries r
def uptoBulkEntry {H : Type} : Lit × DataW H → Nat
  | (.string bytes, d) => bytes.length + uptoBulk d + 1
  | (_, d) => uptoBulk d + 1
 end
def uptoSmall : (H : Type) → List (DataW H) → Bool := fun _ ds => decide (uptoBulkAll ds ≤ 1048576)
def OpenSpec.upto (s : _root_.Go.ChangeSpec) : _root_.Go.OpenSpec := { _root_.Go.OpenSpec.ofChange s with cond := some uptoSmall }

/-- 'laws.FnExactValidCel', WHERE WHAT IT READS IS OF BULK AT MOST 1048576: true; the input reads as it did. -/
def fnExactValidCelUptoRow : OpenClaim := { program := "ytpmlepgnokbpaaa", sum := "d9cf59582bdf53e7dca4a8d119e7c4a3cb80bb6b5113014401287ea0e7c53f6a", func := "loop.example/g01340/laws.FnExactValidCel", spec := "fnExactValidCel", apart := false, narrowed := true }
def FnExactValidCelUptoSaid : Prop := fnExactValidCelUptoRow.holds Try.pinned (OpenSpec.upto fnExactValidCelSpec)

/-- 'laws.FnExactValidScene', WHERE WHAT IT READS IS OF BULK AT MOST 1048576: true; the input reads as it did. -/
def fnExactValidSceneUptoRow : OpenClaim := { program := "ytpmlepgnokbpaaa", sum := "d9cf59582bdf53e7dca4a8d119e7c4a3cb80bb6b5113014401287ea0e7c53f6a", func := "loop.example/g01340/laws.FnExactValidScene", spec := "fnExactValidScene", apart := false, narrowed := true }
def FnExactValidSceneUptoSaid : Prop := fnExactValidSceneUptoRow.holds Try.pinned (OpenSpec.upto fnExactValidSceneSpec)

/-- 'laws.FnExactSameScene', WHERE WHAT IT READS IS OF BULK AT MOST 1048576: true; the input reads as it did. -/
def fnExactSameSceneUptoRow : OpenClaim := { program := "ytpmlepgnokbpaaa", sum := "d9cf59582bdf53e7dca4a8d119e7c4a3cb80bb6b5113014401287ea0e7c53f6a", func := "loop.example/g01340/laws.FnExactSameScene", spec := "fnExactSameScene", apart := false, narrowed := true }
def FnExactSameSceneUptoSaid : Prop := fnExactSameSceneUptoRow.holds Try.pinned (OpenSpec.upto fnExactSameSceneSpec)

/-- 'laws.FnExactCelFrom', WHERE WHAT IT READS IS OF BULK AT MOST 1048576: true; the input reads as it did. -/
def fnExactCelFromUptoRow : OpenClaim := { program := "ytpmlepgnokbpaaa", sum := "d9cf59582bdf53e7dca4a8d119e7c4a3cb80bb6b5113014401287ea0e7c53f6a", func := "loop.example/g01340/laws.FnExactCelFrom", spec := "fnExactCelFrom", unfollowed := true, recurses := true, apart := false, narrowed := true }
def FnExactCelFromUptoSaid : Prop := fnExactCelFromUptoRow.holds Try.pinned (OpenSpec.upto fnExactCelFromSpec)

/-- 'laws.FnExactMoveCel', WHERE WHAT IT READS IS OF BULK AT MOST 1048576: true; the input reads as it did. -/
def fnExactMoveCelUptoRow : OpenClaim := { program := "ytpmlepgnokbpaaa", sum := "d9cf59582bdf53e7dca4a8d119e7c4a3cb80bb6b5113014401287ea0e7c53f6a", func := "loop.example/g01340/laws.FnExactMoveCel", spec := "fnExactMoveCel", apart := false, narrowed := true }
def FnExactMoveCelUptoSaid : Prop := fnExactMoveCelUptoRow.holds Try.pinned (OpenSpec.upto fnExactMoveCelSpec)

/-- 'laws.FnExactLayOver', WHERE WHAT IT READS IS OF BULK AT MOST 1048576: true; the input reads as it did. -/
def fnExactLayOverUptoRow : OpenClaim := { program := "ytpmlepgnokbpaaa", sum := "d9cf59582bdf53e7dca4a8d119e7c4a3cb80bb6b5113014401287ea0e7c53f6a", func := "loop.example/g01340/laws.FnExactLayOver", spec := "fnExactLayOver", apart := false, narrowed := true }
def FnExactLayOverUptoSaid : Prop := fnExactLayOverUptoRow.holds Try.pinned (OpenSpec.upto fnExactLayOverSpec)

/-- 'laws.FnExactShownBy', WHERE WHAT IT READS IS OF BULK AT MOST 1048576: true; the input reads as it did. -/
def fnExactShownByUptoRow : OpenClaim := { program := "ytpmlepgnokbpaaa", sum := "d9cf59582bdf53e7dca4a8d119e7c4a3cb80bb6b5113014401287ea0e7c53f6a", func := "loop.example/g01340/laws.FnExactShownBy", spec := "fnExactShownBy", apart := false, narrowed := true }
def FnExactShownByUptoSaid : Prop := fnExactShownByUptoRow.holds Try.pinned (OpenSpec.upto fnExactShownBySpec)

/-- 'laws.FnExactOffsetAt', WHERE WHAT IT READS IS OF BULK AT MOST 1048576: true; the input reads as it did. -/
def fnExactOffsetAtUptoRow : OpenClaim := { program := "ytpmlepgnokbpaaa", sum := "d9cf59582bdf53e7dca4a8d119e7c4a3cb80bb6b5113014401287ea0e7c53f6a", func := "loop.example/g01340/laws.FnExactOffsetAt", spec := "fnExactOffsetAt", apart := false, narrowed := true }
def FnExactOffsetAtUptoSaid : Prop := fnExactOffsetAtUptoRow.holds Try.pinned (OpenSpec.upto fnExactOffsetAtSpec)

/-- 'laws.FnExactShowScene', WHERE WHAT IT READS IS OF BULK AT MOST 1048576: true; the input reads as it did. -/
def fnExactShowSceneUptoRow : OpenClaim := { program := "ytpmlepgnokbpaaa", sum := "d9cf59582bdf53e7dca4a8d119e7c4a3cb80bb6b5113014401287ea0e7c53f6a", func := "loop.example/g01340/laws.FnExactShowScene", spec := "fnExactShowScene", unfollowed := true, recurses := true, apart := false, narrowed := true }
def FnExactShowSceneUptoSaid : Prop := fnExactShowSceneUptoRow.holds Try.pinned (OpenSpec.upto fnExactShowSceneSpec)

/-- 'laws.FnExactFlattenScene', WHERE WHAT IT READS IS OF BULK AT MOST 1048576: true; the input reads as it did. -/
def fnExactFlattenSceneUptoRow : OpenClaim := { program := "ytpmlepgnokbpaaa", sum := "d9cf59582bdf53e7dca4a8d119e7c4a3cb80bb6b5113014401287ea0e7c53f6a", func := "loop.example/g01340/laws.FnExactFlattenScene", spec := "fnExactFlattenScene", unfollowed := true, recurses := true, apart := false, narrowed := true }
def FnExactFlattenSceneUptoSaid : Prop := fnExactFlattenSceneUptoRow.holds Try.pinned (OpenSpec.upto fnExactFlattenSceneSpec)

/-- 'laws.FnExactPanScene', WHERE WHAT IT READS IS OF BULK AT MOST 1048576: true; the input reads as it did. -/
def fnExactPanSceneUptoRow : OpenClaim := { program := "ytpmlepgnokbpaaa", sum := "d9cf59582bdf53e7dca4a8d119e7c4a3cb80bb6b5113014401287ea0e7c53f6a", func := "loop.example/g01340/laws.FnExactPanScene", spec := "fnExactPanScene", unfollowed := true, recurses := true, apart := false, narrowed := true }
def FnExactPanSceneUptoSaid : Prop := fnExactPanSceneUptoRow.holds Try.pinned (OpenSpec.upto fnExactPanSceneSpec)

/-- 'laws.FnExactValidPart', WHERE WHAT IT READS IS OF BULK AT MOST 1048576: true; the input reads as it did. -/
def fnExactValidPartUptoRow : OpenClaim := { program := "ytpmlepgnokbpaaa", sum := "d9cf59582bdf53e7dca4a8d119e7c4a3cb80bb6b5113014401287ea0e7c53f6a", func := "loop.example/g01340/laws.FnExactValidPart", spec := "fnExactValidPart", apart := false, narrowed := true }
def FnExactValidPartUptoSaid : Prop := fnExactValidPartUptoRow.holds Try.pinned (OpenSpec.upto fnExactValidPartSpec)

end Rows
end Go.Proofs.Ytpmlepgnokbpaaa
