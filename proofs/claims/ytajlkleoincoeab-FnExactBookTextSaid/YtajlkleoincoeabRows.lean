/-
  No cell of these rows narrows 'for every input' (looked for: loops, veiled, ifaces, maps, wideKeys, modest, calm, conditions, laid).
  DERIVED. THE GIVEN ROWS OF THIS SEAT. 5 by the template 'for every input the law returns true; each argument reads behind the call as it read before'; 0 by the template 'total and deterministic' (their statements: YtajlkleoincoeabTotals.lean).
  GIVEN WITH THE SEED: the statements are not yours to turn. If you find one false, say at which input.
  Laid BY PROGRAM, IN A SANDBOX (cutbox-rows.mjs): the forced cells as the released guide's own fill.sh prints them over the translation 91c6741acf25f868… (all of the seat's roots in one cut). By AI agents, Wed Nov 11 2026. No macro, syntax, notation, axiom, sorry.
-/
import Derived.Test.YtajlkleoincoeabChecked
import GoSem.Claim
import GoSem.ClaimJoined
import GoSem.ClaimMapViews
import Derived.JoinedTies
import Derived.KernelRfl
namespace Go.Proofs.Ytajlkleoincoeab
/- THE CELL 'sum', in the pinned program and in every row, IS THE sha256 OF THE DUMP (.gsa) THAT YtajlkleoincoeabProg.lean LOADS. Nothing in Lean hashes anything: it is a label: what it is worth is what the hold of that sum in a sandbox is worth. -/
noncomputable def Try.pinned : Pinned := { name := "ytajlkleoincoeab", sum := "91c6741acf25f8685b83c81c441b19e6760fd133af0356b1e61e932c3bc68cd4", checked := Try.checked }
namespace Rows
def none {H : Type} : Left H := { results := [], args := [] }

/-- 'laws.FnExactFrameText': WHATEVER THE INPUT: true; the input reads as it did. -/
def fnExactFrameTextSpec : ChangeSpec := { name := "fnExactFrameText", fn := fun _ => fun
  | [d] => { results := [.lit (.bool true)], args := [d] }
  | _ => none }
def fnExactFrameTextRow : OpenClaim := { program := "ytajlkleoincoeab", sum := "91c6741acf25f8685b83c81c441b19e6760fd133af0356b1e61e932c3bc68cd4", func := "loop.example/g01340/laws.FnExactFrameText", spec := "fnExactFrameText", inPlace := ["internal/abi.NoEscape"], plainKeys := false, apart := false }
def FnExactFrameTextSaid : Prop := fnExactFrameTextRow.holds Try.pinned (OpenSpec.ofChange fnExactFrameTextSpec)

/-- ITS FALSE NEIGHBOUR: 'it returns false'. Refute it at one input. -/
def fnExactFrameTextWrong : ChangeSpec := { name := "fnExactFrameText", fn := fun _ => fun
  | [d] => { results := [.lit (.bool false)], args := [d] }
  | _ => none }
def FnExactFrameTextWrongFalsely : Prop := fnExactFrameTextRow.holds Try.pinned (OpenSpec.ofChange fnExactFrameTextWrong)

/-- 'laws.FnExactReadFrame': WHATEVER THE INPUT: true; the input reads as it did. -/
def fnExactReadFrameSpec : ChangeSpec := { name := "fnExactReadFrame", fn := fun _ => fun
  | [d] => { results := [.lit (.bool true)], args := [d] }
  | _ => none }
def fnExactReadFrameRow : OpenClaim := { program := "ytajlkleoincoeab", sum := "91c6741acf25f8685b83c81c441b19e6760fd133af0356b1e61e932c3bc68cd4", func := "loop.example/g01340/laws.FnExactReadFrame", spec := "fnExactReadFrame", inPlace := ["internal/abi.NoEscape"], plainKeys := false, apart := false }
def FnExactReadFrameSaid : Prop := fnExactReadFrameRow.holds Try.pinned (OpenSpec.ofChange fnExactReadFrameSpec)

/-- ITS FALSE NEIGHBOUR: 'it returns false'. Refute it at one input. -/
def fnExactReadFrameWrong : ChangeSpec := { name := "fnExactReadFrame", fn := fun _ => fun
  | [d] => { results := [.lit (.bool false)], args := [d] }
  | _ => none }
def FnExactReadFrameWrongFalsely : Prop := fnExactReadFrameRow.holds Try.pinned (OpenSpec.ofChange fnExactReadFrameWrong)

/-- 'laws.FnExactBookText': WHATEVER THE INPUT: true; the input reads as it did. -/
def fnExactBookTextSpec : ChangeSpec := { name := "fnExactBookText", fn := fun _ => fun
  | [d] => { results := [.lit (.bool true)], args := [d] }
  | _ => none }
def fnExactBookTextRow : OpenClaim := { program := "ytajlkleoincoeab", sum := "91c6741acf25f8685b83c81c441b19e6760fd133af0356b1e61e932c3bc68cd4", func := "loop.example/g01340/laws.FnExactBookText", spec := "fnExactBookText", inPlace := ["internal/abi.NoEscape", "internal/bytealg.MakeNoZero"], unfollowed := true, recurses := true, plainKeys := false, apart := false }
def FnExactBookTextSaid : Prop := fnExactBookTextRow.holds Try.pinned (OpenSpec.ofChange fnExactBookTextSpec)

/-- ITS FALSE NEIGHBOUR: 'it returns false'. Refute it at one input. -/
def fnExactBookTextWrong : ChangeSpec := { name := "fnExactBookText", fn := fun _ => fun
  | [d] => { results := [.lit (.bool false)], args := [d] }
  | _ => none }
def FnExactBookTextWrongFalsely : Prop := fnExactBookTextRow.holds Try.pinned (OpenSpec.ofChange fnExactBookTextWrong)

/-- 'laws.FnExactReadBook': WHATEVER THE INPUT: true; the input reads as it did. -/
def fnExactReadBookSpec : ChangeSpec := { name := "fnExactReadBook", fn := fun _ => fun
  | [d] => { results := [.lit (.bool true)], args := [d] }
  | _ => none }
def fnExactReadBookRow : OpenClaim := { program := "ytajlkleoincoeab", sum := "91c6741acf25f8685b83c81c441b19e6760fd133af0356b1e61e932c3bc68cd4", func := "loop.example/g01340/laws.FnExactReadBook", spec := "fnExactReadBook", inPlace := ["internal/abi.NoEscape", "internal/bytealg.MakeNoZero"], unfollowed := true, recurses := true, plainKeys := false, apart := false }
def FnExactReadBookSaid : Prop := fnExactReadBookRow.holds Try.pinned (OpenSpec.ofChange fnExactReadBookSpec)

/-- ITS FALSE NEIGHBOUR: 'it returns false'. Refute it at one input. -/
def fnExactReadBookWrong : ChangeSpec := { name := "fnExactReadBook", fn := fun _ => fun
  | [d] => { results := [.lit (.bool false)], args := [d] }
  | _ => none }
def FnExactReadBookWrongFalsely : Prop := fnExactReadBookRow.holds Try.pinned (OpenSpec.ofChange fnExactReadBookWrong)

/-- 'laws.FnExactShownFor': WHATEVER THE INPUT: true; the input reads as it did. -/
def fnExactShownForSpec : ChangeSpec := { name := "fnExactShownFor", fn := fun _ => fun
  | [d1, d2] => { results := [.lit (.bool true)], args := [d1, d2] }
  | _ => none }
def fnExactShownForRow : OpenClaim := { program := "ytajlkleoincoeab", sum := "91c6741acf25f8685b83c81c441b19e6760fd133af0356b1e61e932c3bc68cd4", func := "loop.example/g01340/laws.FnExactShownFor", spec := "fnExactShownFor", plainKeys := false, apart := false }
def FnExactShownForSaid : Prop := fnExactShownForRow.holds Try.pinned (OpenSpec.ofChange fnExactShownForSpec)

/-- ITS FALSE NEIGHBOUR: 'it returns false'. Refute it at one input. -/
def fnExactShownForWrong : ChangeSpec := { name := "fnExactShownFor", fn := fun _ => fun
  | [d1, d2] => { results := [.lit (.bool false)], args := [d1, d2] }
  | _ => none }
def FnExactShownForWrongFalsely : Prop := fnExactShownForRow.holds Try.pinned (OpenSpec.ofChange fnExactShownForWrong)

/- THE SECOND FORM. 'bulk': how many values and letters a reading holds, each counted each time it is reached (what is shared counts as often as it is met; a slice's spare places count too). A statement '..UptoSaid' is the law's where the arguments, and the package variables that the reading takes, are together of bulk at most 1048576: NARROWER than '..Said'. Prove '..Said' where nothing that the law and all that it calls make is longer than what came in: it says more and counts as full. Else prove '..UptoSaid'. A law counts once. -/
mutual
def uptoBulk {H : Type} : DataW H → Nat
  | .lit (.string bytes) => bytes.length + 1
  | .lit _ => 1
  | .nil => 1
  | .ptr d => uptoBulk d + 1
  | .slice elems spare => uptoBulkAll elems + uptoBulkAll spare + 1
  | .agg parts => uptoBulkAll parts + 1
  | .iface _ d => uptoBulk d + 1
  | .map entries => uptoBulkEntries entries + 1
  | .held _ => 1
def uptoBulkAll {H : Type} : List (DataW H) → Nat
  | [] => 0
  | d :: r => uptoBulk d + uptoBulkAll r
def uptoBulkEntries {H : Type} : List (Lit × DataW H) → Nat
  | [] => 0
  | x :: r => uptoBulkEntry x + uptoBulkEntries r
def uptoBulkEntry {H : Type} : Lit × DataW H → Nat
  | (.string bytes, d) => bytes.length + uptoBulk d + 1
  | (_, d) => uptoBulk d + 1
 end
def uptoSmall : (H : Type) → List (DataW H) → Bool := fun _ ds => decide (uptoBulkAll ds ≤ 1048576)
def OpenSpec.upto (s : _root_.Go.ChangeSpec) : _root_.Go.OpenSpec := { _root_.Go.OpenSpec.ofChange s with cond := some uptoSmall }

/-- 'laws.FnExactFrameText', WHERE WHAT IT READS IS OF BULK AT MOST 1048576: true; the input reads as it did. -/
def fnExactFrameTextUptoRow : OpenClaim := { program := "ytajlkleoincoeab", sum := "91c6741acf25f8685b83c81c441b19e6760fd133af0356b1e61e932c3bc68cd4", func := "loop.example/g01340/laws.FnExactFrameText", spec := "fnExactFrameText", inPlace := ["internal/abi.NoEscape"], plainKeys := false, apart := false, narrowed := true }
def FnExactFrameTextUptoSaid : Prop := fnExactFrameTextUptoRow.holds Try.pinned (OpenSpec.upto fnExactFrameTextSpec)

/-- 'laws.FnExactReadFrame', WHERE WHAT IT READS IS OF BULK AT MOST 1048576: true; the input reads as it did. -/
def fnExactReadFrameUptoRow : OpenClaim := { program := "ytajlkleoincoeab", sum := "91c6741acf25f8685b83c81c441b19e6760fd133af0356b1e61e932c3bc68cd4", func := "loop.example/g01340/laws.FnExactReadFrame", spec := "fnExactReadFrame", inPlace := ["internal/abi.NoEscape"], plainKeys := false, apart := false, narrowed := true }
def FnExactReadFrameUptoSaid : Prop := fnExactReadFrameUptoRow.holds Try.pinned (OpenSpec.upto fnExactReadFrameSpec)

/-- 'laws.FnExactBookText', WHERE WHAT IT READS IS OF BULK AT MOST 1048576: true; the input reads as it did. -/
def fnExactBookTextUptoRow : OpenClaim := { program := "ytajlkleoincoeab", sum := "91c6741acf25f8685b83c81c441b19e6760fd133af0356b1e61e932c3bc68cd4", func := "loop.example/g01340/laws.FnExactBookText", spec := "fnExactBookText", inPlace := ["internal/abi.NoEscape", "internal/bytealg.MakeNoZero"], unfollowed := true, recurses := true, plainKeys := false, apart := false, narrowed := true }
def FnExactBookTextUptoSaid : Prop := fnExactBookTextUptoRow.holds Try.pinned (OpenSpec.upto fnExactBookTextSpec)

/-- 'laws.FnExactReadBook', WHERE WHAT IT READS IS OF BULK AT MOST 1048576: true; the input reads as it did. -/
def fnExactReadBookUptoRow : OpenClaim := { program := "ytajlkleoincoeab", sum := "91c6741acf25f8685b83c81c441b19e6760fd133af0356b1e61e932c3bc68cd4", func := "loop.example/g01340/laws.FnExactReadBook", spec := "fnExactReadBook", inPlace := ["internal/abi.NoEscape", "internal/bytealg.MakeNoZero"], unfollowed := true, recurses := true, plainKeys := false, apart := false, narrowed := true }
def FnExactReadBookUptoSaid : Prop := fnExactReadBookUptoRow.holds Try.pinned (OpenSpec.upto fnExactReadBookSpec)

/-- 'laws.FnExactShownFor', WHERE WHAT IT READS IS OF BULK AT MOST 1048576: true; the input reads as it did. -/
def fnExactShownForUptoRow : OpenClaim := { program := "ytajlkleoincoeab", sum := "91c6741acf25f8685b83c81c441b19e6760fd133af0356b1e61e932c3bc68cd4", func := "loop.example/g01340/laws.FnExactShownFor", spec := "fnExactShownFor", plainKeys := false, apart := false, narrowed := true }
def FnExactShownForUptoSaid : Prop := fnExactShownForUptoRow.holds Try.pinned (OpenSpec.upto fnExactShownForSpec)

end Rows
end Go.Proofs.Ytajlkleoincoeab
