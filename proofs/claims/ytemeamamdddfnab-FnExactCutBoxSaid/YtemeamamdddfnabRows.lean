/-
  No cell of these rows narrows 'for every input' (looked for: loops, veiled, ifaces, maps, wideKeys, modest, calm, conditions, laid).
  DERIVED. THE GIVEN ROWS OF THIS SEAT. 6 by the template 'for every input the law returns true; each argument reads behind the call as it read before'; 0 by the template 'total and deterministic' (their statements: YtemeamamdddfnabTotals.lean).
  GIVEN WITH THE SEED: the statements are not yours to turn. If you find one false, say at which input.
  Laid BY PROGRAM, IN A SANDBOX (cutbox-rows.mjs): the forced cells as the released guide's own fill.sh prints them over the translation 62ff0eb6092e646f… (all of the seat's roots in one cut). By AI agents, Wed Nov 11 2026. No macro, syntax, notation, axiom, sorry.
-/
import Derived.Test.YtemeamamdddfnabChecked
import GoSem.Claim
import GoSem.ClaimJoined
import GoSem.ClaimMapViews
import Derived.JoinedTies
import Derived.KernelRfl
namespace Go.Proofs.Ytemeamamdddfnab
/- THE CELL 'sum', in the pinned program and in every row, IS THE sha256 OF THE DUMP (.gsa) THAT YtemeamamdddfnabProg.lean LOADS. Nothing in Lean hashes anything: it is a label: what it is worth is what the hold of that sum in a sandbox is worth. -/
noncomputable def Try.pinned : Pinned := { name := "ytemeamamdddfnab", sum := "62ff0eb6092e646f6316978cf7745fc291ef5c58377a9f48afccd35342afe83f", checked := Try.checked }
namespace Rows
def none {H : Type} : Left H := { results := [], args := [] }

/-- 'laws.FnExactJoinFrames': WHATEVER THE INPUT: true; the input reads as it did. -/
def fnExactJoinFramesSpec : ChangeSpec := { name := "fnExactJoinFrames", fn := fun _ => fun
  | [d1, d2] => { results := [.lit (.bool true)], args := [d1, d2] }
  | _ => none }
def fnExactJoinFramesRow : OpenClaim := { program := "ytemeamamdddfnab", sum := "62ff0eb6092e646f6316978cf7745fc291ef5c58377a9f48afccd35342afe83f", func := "loop.example/g01340/laws.FnExactJoinFrames", spec := "fnExactJoinFrames", unfollowed := true, recurses := true, apart := false }
def FnExactJoinFramesSaid : Prop := fnExactJoinFramesRow.holds Try.pinned (OpenSpec.ofChange fnExactJoinFramesSpec)

/-- ITS FALSE NEIGHBOUR: 'it returns false'. Refute it at one input. -/
def fnExactJoinFramesWrong : ChangeSpec := { name := "fnExactJoinFrames", fn := fun _ => fun
  | [d1, d2] => { results := [.lit (.bool false)], args := [d1, d2] }
  | _ => none }
def FnExactJoinFramesWrongFalsely : Prop := fnExactJoinFramesRow.holds Try.pinned (OpenSpec.ofChange fnExactJoinFramesWrong)

/-- 'laws.FnExactMeetFrames': WHATEVER THE INPUT: true; the input reads as it did. -/
def fnExactMeetFramesSpec : ChangeSpec := { name := "fnExactMeetFrames", fn := fun _ => fun
  | [d1, d2] => { results := [.lit (.bool true)], args := [d1, d2] }
  | _ => none }
def fnExactMeetFramesRow : OpenClaim := { program := "ytemeamamdddfnab", sum := "62ff0eb6092e646f6316978cf7745fc291ef5c58377a9f48afccd35342afe83f", func := "loop.example/g01340/laws.FnExactMeetFrames", spec := "fnExactMeetFrames", unfollowed := true, recurses := true, apart := false }
def FnExactMeetFramesSaid : Prop := fnExactMeetFramesRow.holds Try.pinned (OpenSpec.ofChange fnExactMeetFramesSpec)

/-- ITS FALSE NEIGHBOUR: 'it returns false'. Refute it at one input. -/
def fnExactMeetFramesWrong : ChangeSpec := { name := "fnExactMeetFrames", fn := fun _ => fun
  | [d1, d2] => { results := [.lit (.bool false)], args := [d1, d2] }
  | _ => none }
def FnExactMeetFramesWrongFalsely : Prop := fnExactMeetFramesRow.holds Try.pinned (OpenSpec.ofChange fnExactMeetFramesWrong)

/-- 'laws.FnExactLessFrame': WHATEVER THE INPUT: true; the input reads as it did. -/
def fnExactLessFrameSpec : ChangeSpec := { name := "fnExactLessFrame", fn := fun _ => fun
  | [d1, d2] => { results := [.lit (.bool true)], args := [d1, d2] }
  | _ => none }
def fnExactLessFrameRow : OpenClaim := { program := "ytemeamamdddfnab", sum := "62ff0eb6092e646f6316978cf7745fc291ef5c58377a9f48afccd35342afe83f", func := "loop.example/g01340/laws.FnExactLessFrame", spec := "fnExactLessFrame", unfollowed := true, recurses := true, apart := false }
def FnExactLessFrameSaid : Prop := fnExactLessFrameRow.holds Try.pinned (OpenSpec.ofChange fnExactLessFrameSpec)

/-- ITS FALSE NEIGHBOUR: 'it returns false'. Refute it at one input. -/
def fnExactLessFrameWrong : ChangeSpec := { name := "fnExactLessFrame", fn := fun _ => fun
  | [d1, d2] => { results := [.lit (.bool false)], args := [d1, d2] }
  | _ => none }
def FnExactLessFrameWrongFalsely : Prop := fnExactLessFrameRow.holds Try.pinned (OpenSpec.ofChange fnExactLessFrameWrong)

/-- 'laws.FnExactDifferBy': WHATEVER THE INPUT: true; the input reads as it did. -/
def fnExactDifferBySpec : ChangeSpec := { name := "fnExactDifferBy", fn := fun _ => fun
  | [d1, d2] => { results := [.lit (.bool true)], args := [d1, d2] }
  | _ => none }
def fnExactDifferByRow : OpenClaim := { program := "ytemeamamdddfnab", sum := "62ff0eb6092e646f6316978cf7745fc291ef5c58377a9f48afccd35342afe83f", func := "loop.example/g01340/laws.FnExactDifferBy", spec := "fnExactDifferBy", unfollowed := true, recurses := true, apart := false }
def FnExactDifferBySaid : Prop := fnExactDifferByRow.holds Try.pinned (OpenSpec.ofChange fnExactDifferBySpec)

/-- ITS FALSE NEIGHBOUR: 'it returns false'. Refute it at one input. -/
def fnExactDifferByWrong : ChangeSpec := { name := "fnExactDifferBy", fn := fun _ => fun
  | [d1, d2] => { results := [.lit (.bool false)], args := [d1, d2] }
  | _ => none }
def FnExactDifferByWrongFalsely : Prop := fnExactDifferByRow.holds Try.pinned (OpenSpec.ofChange fnExactDifferByWrong)

/-- 'laws.FnExactCutBox': WHATEVER THE INPUT: true; the input reads as it did. -/
def fnExactCutBoxSpec : ChangeSpec := { name := "fnExactCutBox", fn := fun _ => fun
  | [d1, d2] => { results := [.lit (.bool true)], args := [d1, d2] }
  | _ => none }
def fnExactCutBoxRow : OpenClaim := { program := "ytemeamamdddfnab", sum := "62ff0eb6092e646f6316978cf7745fc291ef5c58377a9f48afccd35342afe83f", func := "loop.example/g01340/laws.FnExactCutBox", spec := "fnExactCutBox", apart := false }
def FnExactCutBoxSaid : Prop := fnExactCutBoxRow.holds Try.pinned (OpenSpec.ofChange fnExactCutBoxSpec)

/-- ITS FALSE NEIGHBOUR: 'it returns false'. Refute it at one input. -/
def fnExactCutBoxWrong : ChangeSpec := { name := "fnExactCutBox", fn := fun _ => fun
  | [d1, d2] => { results := [.lit (.bool false)], args := [d1, d2] }
  | _ => none }
def FnExactCutBoxWrongFalsely : Prop := fnExactCutBoxRow.holds Try.pinned (OpenSpec.ofChange fnExactCutBoxWrong)

/-- 'laws.FnExactFrameText': WHATEVER THE INPUT: true; the input reads as it did. -/
def fnExactFrameTextSpec : ChangeSpec := { name := "fnExactFrameText", fn := fun _ => fun
  | [d] => { results := [.lit (.bool true)], args := [d] }
  | _ => none }
def fnExactFrameTextRow : OpenClaim := { program := "ytemeamamdddfnab", sum := "62ff0eb6092e646f6316978cf7745fc291ef5c58377a9f48afccd35342afe83f", func := "loop.example/g01340/laws.FnExactFrameText", spec := "fnExactFrameText", inPlace := ["internal/abi.NoEscape"], apart := false }
def FnExactFrameTextSaid : Prop := fnExactFrameTextRow.holds Try.pinned (OpenSpec.ofChange fnExactFrameTextSpec)

/-- ITS FALSE NEIGHBOUR: 'it returns false'. Refute it at one input. -/
def fnExactFrameTextWrong : ChangeSpec := { name := "fnExactFrameText", fn := fun _ => fun
  | [d] => { results := [.lit (.bool false)], args := [d] }
  | _ => none }
def FnExactFrameTextWrongFalsely : Prop := fnExactFrameTextRow.holds Try.pinned (OpenSpec.ofChange fnExactFrameTextWrong)

/- THE SECOND FORM. 'bulk': how many values and letters a reading holds, each counted each time it is reached (what is shared counts as often as it is met; a slice's spare places count too). A statement '..UptoSaid' is the law's where the arguments, and the package variables that the reading takes, are together of bulk at most 1048576: NARROWER than '..Said'. Prove '..Said' where nothing that the law and all that it calls make is longer than what came in: it says more and counts as full. Else prove '..UptoSaid'. A law counts once. -/
mutual
def uptoBulk {H : Type} : DataW H → Nat
  | .lit (.string bytes) => bytes.length + 1
  | .lit _ => 1
  | .nil => 1
  | .ptr d => uptoBulk d + 1
  | .slice elems spare => uptoBulkAll elems + uptoBulkAll spare + 1
  | .agg parts => uptoBulkAll parts + 1
  | .iface _ d => uptoBulk d + 1
  | .map entries => uptoBulkEntries entries + 1
  | .held _ => 1
def uptoBulkAll {H : Type} : List (DataW H) → Nat
  | [] => 0
  | d :: r => uptoBulk d + uptoBulkAll r
def uptoBulkEntries {H : Type} : List (Lit × DataW H) → Nat
  | [] => 0
  | x :: r => uptoBulkEntry x + uptoBulkEntries r
def uptoBulkEntry {H : Type} : Lit × DataW H → Nat
  | (.string bytes, d) => bytes.length + uptoBulk d + 1
  | (_, d) => uptoBulk d + 1
 end
def uptoSmall : (H : Type) → List (DataW H) → Bool := fun _ ds => decide (uptoBulkAll ds ≤ 1048576)
def OpenSpec.upto (s : _root_.Go.ChangeSpec) : _root_.Go.OpenSpec := { _root_.Go.OpenSpec.ofChange s with cond := some uptoSmall }

/-- 'laws.FnExactJoinFrames', WHERE WHAT IT READS IS OF BULK AT MOST 1048576: true; the input reads as it did. -/
def fnExactJoinFramesUptoRow : OpenClaim := { program := "ytemeamamdddfnab", sum := "62ff0eb6092e646f6316978cf7745fc291ef5c58377a9f48afccd35342afe83f", func := "loop.example/g01340/laws.FnExactJoinFrames", spec := "fnExactJoinFrames", unfollowed := true, recurses := true, apart := false, narrowed := true }
def FnExactJoinFramesUptoSaid : Prop := fnExactJoinFramesUptoRow.holds Try.pinned (OpenSpec.upto fnExactJoinFramesSpec)

/-- 'laws.FnExactMeetFrames', WHERE WHAT IT READS IS OF BULK AT MOST 1048576: true; the input reads as it did. -/
def fnExactMeetFramesUptoRow : OpenClaim := { program := "ytemeamamdddfnab", sum := "62ff0eb6092e646f6316978cf7745fc291ef5c58377a9f48afccd35342afe83f", func := "loop.example/g01340/laws.FnExactMeetFrames", spec := "fnExactMeetFrames", unfollowed := true, recurses := true, apart := false, narrowed := true }
def FnExactMeetFramesUptoSaid : Prop := fnExactMeetFramesUptoRow.holds Try.pinned (OpenSpec.upto fnExactMeetFramesSpec)

/-- 'laws.FnExactLessFrame', WHERE WHAT IT READS IS OF BULK AT MOST 1048576: true; the input reads as it did. -/
def fnExactLessFrameUptoRow : OpenClaim := { program := "ytemeamamdddfnab", sum := "62ff0eb6092e646f6316978cf7745fc291ef5c58377a9f48afccd35342afe83f", func := "loop.example/g01340/laws.FnExactLessFrame", spec := "fnExactLessFrame", unfollowed := true, recurses := true, apart := false, narrowed := true }
def FnExactLessFrameUptoSaid : Prop := fnExactLessFrameUptoRow.holds Try.pinned (OpenSpec.upto fnExactLessFrameSpec)

/-- 'laws.FnExactDifferBy', WHERE WHAT IT READS IS OF BULK AT MOST 1048576: true; the input reads as it did. -/
def fnExactDifferByUptoRow : OpenClaim := { program := "ytemeamamdddfnab", sum := "62ff0eb6092e646f6316978cf7745fc291ef5c58377a9f48afccd35342afe83f", func := "loop.example/g01340/laws.FnExactDifferBy", spec := "fnExactDifferBy", unfollowed := true, recurses := true, apart := false, narrowed := true }
def FnExactDifferByUptoSaid : Prop := fnExactDifferByUptoRow.holds Try.pinned (OpenSpec.upto fnExactDifferBySpec)

/-- 'laws.FnExactCutBox', WHERE WHAT IT READS IS OF BULK AT MOST 1048576: true; the input reads as it did. -/
def fnExactCutBoxUptoRow : OpenClaim := { program := "ytemeamamdddfnab", sum := "62ff0eb6092e646f6316978cf7745fc291ef5c58377a9f48afccd35342afe83f", func := "loop.example/g01340/laws.FnExactCutBox", spec := "fnExactCutBox", apart := false, narrowed := true }
def FnExactCutBoxUptoSaid : Prop := fnExactCutBoxUptoRow.holds Try.pinned (OpenSpec.upto fnExactCutBoxSpec)

/-- 'laws.FnExactFrameText', WHERE WHAT IT READS IS OF BULK AT MOST 1048576: true; the input reads as it did. -/
def fnExactFrameTextUptoRow : OpenClaim := { program := "ytemeamamdddfnab", sum := "62ff0eb6092e646f6316978cf7745fc291ef5c58377a9f48afccd35342afe83f", func := "loop.example/g01340/laws.FnExactFrameText", spec := "fnExactFrameText", inPlace := ["internal/abi.NoEscape"], apart := false, narrowed := true }
def FnExactFrameTextUptoSaid : Prop := fnExactFrameTextUptoRow.holds Try.pinned (OpenSpec.upto fnExactFrameTextSpec)

end Rows
end Go.Proofs.Ytemeamamdddfnab
