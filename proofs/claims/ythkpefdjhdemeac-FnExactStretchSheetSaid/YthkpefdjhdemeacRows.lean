/-
  No cell of these rows narrows 'for every input' (looked for: loops, veiled, ifaces, maps, wideKeys, modest, calm, conditions, laid).
  DERIVED. THE GIVEN ROWS OF THIS SEAT. 11 by the template 'for every input the law returns true; each argument reads behind the call as it read before'; 0 by the template 'total and deterministic' (their statements: YthkpefdjhdemeacTotals.lean).
  GIVEN WITH THE SEED: the statements are not yours to turn. If you find one false, say at which input.
  Laid BY PROGRAM, IN A SANDBOX (cutbox-rows.mjs): the forced cells as the released guide's own fill.sh prints them over the translation 8164ccba5b1708f4… (all of the seat's roots in one cut). By AI agents, Wed Nov 11 2026. No macro, syntax, notation, axiom, sorry.
-/
import Derived.Test.YthkpefdjhdemeacChecked
import GoSem.Claim
import GoSem.ClaimJoined
import GoSem.ClaimMapViews
import Derived.JoinedTies
import Derived.KernelRfl
namespace Go.Proofs.Ythkpefdjhdemeac
/- THE CELL 'sum', in the pinned program and in every row, IS THE sha256 OF THE DUMP (.gsa) THAT YthkpefdjhdemeacProg.lean LOADS. Nothing in Lean hashes anything: it is a label: what it is worth is what the hold of that sum in a sandbox is worth. -/
noncomputable def Try.pinned : Pinned := { name := "ythkpefdjhdemeac", sum := "8164ccba5b1708f43d6fe61ed585208f02cb048e5f712a88785f150515349d8e", checked := Try.checked }
namespace Rows
def none {H : Type} : Left H := { results := [], args := [] }

/-- 'laws.FnExactRepeatsIn': WHATEVER THE INPUT: true; the input reads as it did. -/
def fnExactRepeatsInSpec : ChangeSpec := { name := "fnExactRepeatsIn", fn := fun _ => fun
  | [d] => { results := [.lit (.bool true)], args := [d] }
  | _ => none }
def fnExactRepeatsInRow : OpenClaim := { program := "ythkpefdjhdemeac", sum := "8164ccba5b1708f43d6fe61ed585208f02cb048e5f712a88785f150515349d8e", func := "loop.example/g01340/laws.FnExactRepeatsIn", spec := "fnExactRepeatsIn", plainKeys := false, apart := false }
def FnExactRepeatsInSaid : Prop := fnExactRepeatsInRow.holds Try.pinned (OpenSpec.ofChange fnExactRepeatsInSpec)

/-- ITS FALSE NEIGHBOUR: 'it returns false'. Refute it at one input. -/
def fnExactRepeatsInWrong : ChangeSpec := { name := "fnExactRepeatsIn", fn := fun _ => fun
  | [d] => { results := [.lit (.bool false)], args := [d] }
  | _ => none }
def FnExactRepeatsInWrongFalsely : Prop := fnExactRepeatsInRow.holds Try.pinned (OpenSpec.ofChange fnExactRepeatsInWrong)

/-- 'laws.FnExactDistinctPages': WHATEVER THE INPUT: true; the input reads as it did. -/
def fnExactDistinctPagesSpec : ChangeSpec := { name := "fnExactDistinctPages", fn := fun _ => fun
  | [d] => { results := [.lit (.bool true)], args := [d] }
  | _ => none }
def fnExactDistinctPagesRow : OpenClaim := { program := "ythkpefdjhdemeac", sum := "8164ccba5b1708f43d6fe61ed585208f02cb048e5f712a88785f150515349d8e", func := "loop.example/g01340/laws.FnExactDistinctPages", spec := "fnExactDistinctPages", plainKeys := false, apart := false }
def FnExactDistinctPagesSaid : Prop := fnExactDistinctPagesRow.holds Try.pinned (OpenSpec.ofChange fnExactDistinctPagesSpec)

/-- ITS FALSE NEIGHBOUR: 'it returns false'. Refute it at one input. -/
def fnExactDistinctPagesWrong : ChangeSpec := { name := "fnExactDistinctPages", fn := fun _ => fun
  | [d] => { results := [.lit (.bool false)], args := [d] }
  | _ => none }
def FnExactDistinctPagesWrongFalsely : Prop := fnExactDistinctPagesRow.holds Try.pinned (OpenSpec.ofChange fnExactDistinctPagesWrong)

/-- 'laws.FnExactValidSheet': WHATEVER THE INPUT: true; the input reads as it did. -/
def fnExactValidSheetSpec : ChangeSpec := { name := "fnExactValidSheet", fn := fun _ => fun
  | [d1, d2] => { results := [.lit (.bool true)], args := [d1, d2] }
  | _ => none }
def fnExactValidSheetRow : OpenClaim := { program := "ythkpefdjhdemeac", sum := "8164ccba5b1708f43d6fe61ed585208f02cb048e5f712a88785f150515349d8e", func := "loop.example/g01340/laws.FnExactValidSheet", spec := "fnExactValidSheet", plainKeys := false, apart := false }
def FnExactValidSheetSaid : Prop := fnExactValidSheetRow.holds Try.pinned (OpenSpec.ofChange fnExactValidSheetSpec)

/-- ITS FALSE NEIGHBOUR: 'it returns false'. Refute it at one input. -/
def fnExactValidSheetWrong : ChangeSpec := { name := "fnExactValidSheet", fn := fun _ => fun
  | [d1, d2] => { results := [.lit (.bool false)], args := [d1, d2] }
  | _ => none }
def FnExactValidSheetWrongFalsely : Prop := fnExactValidSheetRow.holds Try.pinned (OpenSpec.ofChange fnExactValidSheetWrong)

/-- 'laws.FnExactSheetLength': WHATEVER THE INPUT: true; the input reads as it did. -/
def fnExactSheetLengthSpec : ChangeSpec := { name := "fnExactSheetLength", fn := fun _ => fun
  | [d1, d2] => { results := [.lit (.bool true)], args := [d1, d2] }
  | _ => none }
def fnExactSheetLengthRow : OpenClaim := { program := "ythkpefdjhdemeac", sum := "8164ccba5b1708f43d6fe61ed585208f02cb048e5f712a88785f150515349d8e", func := "loop.example/g01340/laws.FnExactSheetLength", spec := "fnExactSheetLength", plainKeys := false, apart := false }
def FnExactSheetLengthSaid : Prop := fnExactSheetLengthRow.holds Try.pinned (OpenSpec.ofChange fnExactSheetLengthSpec)

/-- ITS FALSE NEIGHBOUR: 'it returns false'. Refute it at one input. -/
def fnExactSheetLengthWrong : ChangeSpec := { name := "fnExactSheetLength", fn := fun _ => fun
  | [d1, d2] => { results := [.lit (.bool false)], args := [d1, d2] }
  | _ => none }
def FnExactSheetLengthWrongFalsely : Prop := fnExactSheetLengthRow.holds Try.pinned (OpenSpec.ofChange fnExactSheetLengthWrong)

/-- 'laws.FnExactPageAt': WHATEVER THE INPUT: true; the input reads as it did. -/
def fnExactPageAtSpec : ChangeSpec := { name := "fnExactPageAt", fn := fun _ => fun
  | [d1, d2, d3] => { results := [.lit (.bool true)], args := [d1, d2, d3] }
  | _ => none }
def fnExactPageAtRow : OpenClaim := { program := "ythkpefdjhdemeac", sum := "8164ccba5b1708f43d6fe61ed585208f02cb048e5f712a88785f150515349d8e", func := "loop.example/g01340/laws.FnExactPageAt", spec := "fnExactPageAt", plainKeys := false, apart := false }
def FnExactPageAtSaid : Prop := fnExactPageAtRow.holds Try.pinned (OpenSpec.ofChange fnExactPageAtSpec)

/-- ITS FALSE NEIGHBOUR: 'it returns false'. Refute it at one input. -/
def fnExactPageAtWrong : ChangeSpec := { name := "fnExactPageAt", fn := fun _ => fun
  | [d1, d2, d3] => { results := [.lit (.bool false)], args := [d1, d2, d3] }
  | _ => none }
def FnExactPageAtWrongFalsely : Prop := fnExactPageAtRow.holds Try.pinned (OpenSpec.ofChange fnExactPageAtWrong)

/-- 'laws.FnExactPlaySheet': WHATEVER THE INPUT: true; the input reads as it did. -/
def fnExactPlaySheetSpec : ChangeSpec := { name := "fnExactPlaySheet", fn := fun _ => fun
  | [d1, d2] => { results := [.lit (.bool true)], args := [d1, d2] }
  | _ => none }
def fnExactPlaySheetRow : OpenClaim := { program := "ythkpefdjhdemeac", sum := "8164ccba5b1708f43d6fe61ed585208f02cb048e5f712a88785f150515349d8e", func := "loop.example/g01340/laws.FnExactPlaySheet", spec := "fnExactPlaySheet", plainKeys := false, apart := false }
def FnExactPlaySheetSaid : Prop := fnExactPlaySheetRow.holds Try.pinned (OpenSpec.ofChange fnExactPlaySheetSpec)

/-- ITS FALSE NEIGHBOUR: 'it returns false'. Refute it at one input. -/
def fnExactPlaySheetWrong : ChangeSpec := { name := "fnExactPlaySheet", fn := fun _ => fun
  | [d1, d2] => { results := [.lit (.bool false)], args := [d1, d2] }
  | _ => none }
def FnExactPlaySheetWrongFalsely : Prop := fnExactPlaySheetRow.holds Try.pinned (OpenSpec.ofChange fnExactPlaySheetWrong)

/-- 'laws.FnExactSheetOf': WHATEVER THE INPUT: true; the input reads as it did. -/
def fnExactSheetOfSpec : ChangeSpec := { name := "fnExactSheetOf", fn := fun _ => fun
  | [d] => { results := [.lit (.bool true)], args := [d] }
  | _ => none }
def fnExactSheetOfRow : OpenClaim := { program := "ythkpefdjhdemeac", sum := "8164ccba5b1708f43d6fe61ed585208f02cb048e5f712a88785f150515349d8e", func := "loop.example/g01340/laws.FnExactSheetOf", spec := "fnExactSheetOf", plainKeys := false, apart := false }
def FnExactSheetOfSaid : Prop := fnExactSheetOfRow.holds Try.pinned (OpenSpec.ofChange fnExactSheetOfSpec)

/-- ITS FALSE NEIGHBOUR: 'it returns false'. Refute it at one input. -/
def fnExactSheetOfWrong : ChangeSpec := { name := "fnExactSheetOf", fn := fun _ => fun
  | [d] => { results := [.lit (.bool false)], args := [d] }
  | _ => none }
def FnExactSheetOfWrongFalsely : Prop := fnExactSheetOfRow.holds Try.pinned (OpenSpec.ofChange fnExactSheetOfWrong)

/-- 'laws.FnExactShortSheet': WHATEVER THE INPUT: true; the input reads as it did. -/
def fnExactShortSheetSpec : ChangeSpec := { name := "fnExactShortSheet", fn := fun _ => fun
  | [d1, d2] => { results := [.lit (.bool true)], args := [d1, d2] }
  | _ => none }
def fnExactShortSheetRow : OpenClaim := { program := "ythkpefdjhdemeac", sum := "8164ccba5b1708f43d6fe61ed585208f02cb048e5f712a88785f150515349d8e", func := "loop.example/g01340/laws.FnExactShortSheet", spec := "fnExactShortSheet", unfollowed := true, recurses := true, plainKeys := false, apart := false }
def FnExactShortSheetSaid : Prop := fnExactShortSheetRow.holds Try.pinned (OpenSpec.ofChange fnExactShortSheetSpec)

/-- ITS FALSE NEIGHBOUR: 'it returns false'. Refute it at one input. -/
def fnExactShortSheetWrong : ChangeSpec := { name := "fnExactShortSheet", fn := fun _ => fun
  | [d1, d2] => { results := [.lit (.bool false)], args := [d1, d2] }
  | _ => none }
def FnExactShortSheetWrongFalsely : Prop := fnExactShortSheetRow.holds Try.pinned (OpenSpec.ofChange fnExactShortSheetWrong)

/-- 'laws.FnExactStretchSheet': WHATEVER THE INPUT: true; the input reads as it did. -/
def fnExactStretchSheetSpec : ChangeSpec := { name := "fnExactStretchSheet", fn := fun _ => fun
  | [d1, d2, d3, d4] => { results := [.lit (.bool true)], args := [d1, d2, d3, d4] }
  | _ => none }
def fnExactStretchSheetRow : OpenClaim := { program := "ythkpefdjhdemeac", sum := "8164ccba5b1708f43d6fe61ed585208f02cb048e5f712a88785f150515349d8e", func := "loop.example/g01340/laws.FnExactStretchSheet", spec := "fnExactStretchSheet", plainKeys := false, apart := false }
def FnExactStretchSheetSaid : Prop := fnExactStretchSheetRow.holds Try.pinned (OpenSpec.ofChange fnExactStretchSheetSpec)

/-- ITS FALSE NEIGHBOUR: 'it returns false'. Refute it at one input. -/
def fnExactStretchSheetWrong : ChangeSpec := { name := "fnExactStretchSheet", fn := fun _ => fun
  | [d1, d2, d3, d4] => { results := [.lit (.bool false)], args := [d1, d2, d3, d4] }
  | _ => none }
def FnExactStretchSheetWrongFalsely : Prop := fnExactStretchSheetRow.holds Try.pinned (OpenSpec.ofChange fnExactStretchSheetWrong)

/-- 'laws.FnExactShownFor': WHATEVER THE INPUT: true; the input reads as it did. -/
def fnExactShownForSpec : ChangeSpec := { name := "fnExactShownFor", fn := fun _ => fun
  | [d1, d2] => { results := [.lit (.bool true)], args := [d1, d2] }
  | _ => none }
def fnExactShownForRow : OpenClaim := { program := "ythkpefdjhdemeac", sum := "8164ccba5b1708f43d6fe61ed585208f02cb048e5f712a88785f150515349d8e", func := "loop.example/g01340/laws.FnExactShownFor", spec := "fnExactShownFor", plainKeys := false, apart := false }
def FnExactShownForSaid : Prop := fnExactShownForRow.holds Try.pinned (OpenSpec.ofChange fnExactShownForSpec)

/-- ITS FALSE NEIGHBOUR: 'it returns false'. Refute it at one input. -/
def fnExactShownForWrong : ChangeSpec := { name := "fnExactShownFor", fn := fun _ => fun
  | [d1, d2] => { results := [.lit (.bool false)], args := [d1, d2] }
  | _ => none }
def FnExactShownForWrongFalsely : Prop := fnExactShownForRow.holds Try.pinned (OpenSpec.ofChange fnExactShownForWrong)

/-- 'laws.FnExactBookText': WHATEVER THE INPUT: true; the input reads as it did. -/
def fnExactBookTextSpec : ChangeSpec := { name := "fnExactBookText", fn := fun _ => fun
  | [d] => { results := [.lit (.bool true)], args := [d] }
  | _ => none }
def fnExactBookTextRow : OpenClaim := { program := "ythkpefdjhdemeac", sum := "8164ccba5b1708f43d6fe61ed585208f02cb048e5f712a88785f150515349d8e", func := "loop.example/g01340/laws.FnExactBookText", spec := "fnExactBookText", inPlace := ["internal/abi.NoEscape", "internal/bytealg.MakeNoZero"], unfollowed := true, recurses := true, plainKeys := false, apart := false }
def FnExactBookTextSaid : Prop := fnExactBookTextRow.holds Try.pinned (OpenSpec.ofChange fnExactBookTextSpec)

/-- ITS FALSE NEIGHBOUR: 'it returns false'. Refute it at one input. -/
def fnExactBookTextWrong : ChangeSpec := { name := "fnExactBookText", fn := fun _ => fun
  | [d] => { results := [.lit (.bool false)], args := [d] }
  | _ => none }
def FnExactBookTextWrongFalsely : Prop := fnExactBookTextRow.holds Try.pinned (OpenSpec.ofChange fnExactBookTextWrong)

/- THE SECOND FORM. 'bulk': how many values and letters a reading holds, each counted each time it is reached (what is shared counts as often as it is met; a slice's spare places count too). A statement '..UptoSaid' is the law's where the arguments, and the package variables that the reading takes, are together of bulk at most 1048576: NARROWER than '..Said'. Prove '..Said' where nothing that the law and all that it calls make is longer than what came in: it says more and counts as full. Else prove '..UptoSaid'. A law counts once. -/
mutual
def uptoBulk {H : Type} : DataW H → Nat
  | .lit (.string bytes) => bytes.length + 1
  | .lit _ => 1
  | .nil => 1
  | .ptr d => uptoBulk d + 1
  | .slice elems spare => uptoBulkAll elems + uptoBulkAll spare + 1
  | .agg parts => uptoBulkAll parts + 1
  | .iface _ d => uptoBulk d + 1
  | .map entries => uptoBulkEntries entries + 1
  | .held _ => 1
def uptoBulkAll {H : Type} : List (DataW H) → Nat
  | [] => 0
  | d :: r => uptoBulk d + uptoBulkAll r
def uptoBulkEntries {H : Type} : List (Lit × DataW H) → Nat
  | [] => 0
  | x :: r => uptoBulkEntry x + uptoBulkEntries r
def uptoBulkEntry {H : Type} : Lit × DataW H → Nat
  | (.string bytes, d) => bytes.length + uptoBulk d + 1
  | (_, d) => uptoBulk d + 1
 end
def uptoSmall : (H : Type) → List (DataW H) → Bool := fun _ ds => decide (uptoBulkAll ds ≤ 1048576)
def OpenSpec.upto (s : _root_.Go.ChangeSpec) : _root_.Go.OpenSpec := { _root_.Go.OpenSpec.ofChange s with cond := some uptoSmall }

/-- 'laws.FnExactRepeatsIn', WHERE WHAT IT READS IS OF BULK AT MOST 1048576: true; the input reads as it did. -/
def fnExactRepeatsInUptoRow : OpenClaim := { program := "ythkpefdjhdemeac", sum := "8164ccba5b1708f43d6fe61ed585208f02cb048e5f712a88785f150515349d8e", func := "loop.example/g01340/laws.FnExactRepeatsIn", spec := "fnExactRepeatsIn", plainKeys := false, apart := false, narrowed := true }
def FnExactRepeatsInUptoSaid : Prop := fnExactRepeatsInUptoRow.holds Try.pinned (OpenSpec.upto fnExactRepeatsInSpec)

/-- 'laws.FnExactDistinctPages', WHERE WHAT IT READS IS OF BULK AT MOST 1048576: true; the input reads as it did. -/
def fnExactDistinctPagesUptoRow : OpenClaim := { program := "ythkpefdjhdemeac", sum := "8164ccba5b1708f43d6fe61ed585208f02cb048e5f712a88785f150515349d8e", func := "loop.example/g01340/laws.FnExactDistinctPages", spec := "fnExactDistinctPages", plainKeys := false, apart := false, narrowed := true }
def FnExactDistinctPagesUptoSaid : Prop := fnExactDistinctPagesUptoRow.holds Try.pinned (OpenSpec.upto fnExactDistinctPagesSpec)

/-- 'laws.FnExactValidSheet', WHERE WHAT IT READS IS OF BULK AT MOST 1048576: true; the input reads as it did. -/
def fnExactValidSheetUptoRow : OpenClaim := { program := "ythkpefdjhdemeac", sum := "8164ccba5b1708f43d6fe61ed585208f02cb048e5f712a88785f150515349d8e", func := "loop.example/g01340/laws.FnExactValidSheet", spec := "fnExactValidSheet", plainKeys := false, apart := false, narrowed := true }
def FnExactValidSheetUptoSaid : Prop := fnExactValidSheetUptoRow.holds Try.pinned (OpenSpec.upto fnExactValidSheetSpec)

/-- 'laws.FnExactSheetLength', WHERE WHAT IT READS IS OF BULK AT MOST 1048576: true; the input reads as it did. -/
def fnExactSheetLengthUptoRow : OpenClaim := { program := "ythkpefdjhdemeac", sum := "8164ccba5b1708f43d6fe61ed585208f02cb048e5f712a88785f150515349d8e", func := "loop.example/g01340/laws.FnExactSheetLength", spec := "fnExactSheetLength", plainKeys := false, apart := false, narrowed := true }
def FnExactSheetLengthUptoSaid : Prop := fnExactSheetLengthUptoRow.holds Try.pinned (OpenSpec.upto fnExactSheetLengthSpec)

/-- 'laws.FnExactPageAt', WHERE WHAT IT READS IS OF BULK AT MOST 1048576: true; the input reads as it did. -/
def fnExactPageAtUptoRow : OpenClaim := { program := "ythkpefdjhdemeac", sum := "8164ccba5b1708f43d6fe61ed585208f02cb048e5f712a88785f150515349d8e", func := "loop.example/g01340/laws.FnExactPageAt", spec := "fnExactPageAt", plainKeys := false, apart := false, narrowed := true }
def FnExactPageAtUptoSaid : Prop := fnExactPageAtUptoRow.holds Try.pinned (OpenSpec.upto fnExactPageAtSpec)

/-- 'laws.FnExactPlaySheet', WHERE WHAT IT READS IS OF BULK AT MOST 1048576: true; the input reads as it did. -/
def fnExactPlaySheetUptoRow : OpenClaim := { program := "ythkpefdjhdemeac", sum := "8164ccba5b1708f43d6fe61ed585208f02cb048e5f712a88785f150515349d8e", func := "loop.example/g01340/laws.FnExactPlaySheet", spec := "fnExactPlaySheet", plainKeys := false, apart := false, narrowed := true }
def FnExactPlaySheetUptoSaid : Prop := fnExactPlaySheetUptoRow.holds Try.pinned (OpenSpec.upto fnExactPlaySheetSpec)

/-- 'laws.FnExactSheetOf', WHERE WHAT IT READS IS OF BULK AT MOST 1048576: true; the input reads as it did. -/
def fnExactSheetOfUptoRow : OpenClaim := { program := "ythkpefdjhdemeac", sum := "8164ccba5b1708f43d6fe61ed585208f02cb048e5f712a88785f150515349d8e", func := "loop.example/g01340/laws.FnExactSheetOf", spec := "fnExactSheetOf", plainKeys := false, apart := false, narrowed := true }
def FnExactSheetOfUptoSaid : Prop := fnExactSheetOfUptoRow.holds Try.pinned (OpenSpec.upto fnExactSheetOfSpec)

/-- 'laws.FnExactShortSheet', WHERE WHAT IT READS IS OF BULK AT MOST 1048576: true; the input reads as it did. -/
def fnExactShortSheetUptoRow : OpenClaim := { program := "ythkpefdjhdemeac", sum := "8164ccba5b1708f43d6fe61ed585208f02cb048e5f712a88785f150515349d8e", func := "loop.example/g01340/laws.FnExactShortSheet", spec := "fnExactShortSheet", unfollowed := true, recurses := true, plainKeys := false, apart := false, narrowed := true }
def FnExactShortSheetUptoSaid : Prop := fnExactShortSheetUptoRow.holds Try.pinned (OpenSpec.upto fnExactShortSheetSpec)

/-- 'laws.FnExactStretchSheet', WHERE WHAT IT READS IS OF BULK AT MOST 1048576: true; the input reads as it did. -/
def fnExactStretchSheetUptoRow : OpenClaim := { program := "ythkpefdjhdemeac", sum := "8164ccba5b1708f43d6fe61ed585208f02cb048e5f712a88785f150515349d8e", func := "loop.example/g01340/laws.FnExactStretchSheet", spec := "fnExactStretchSheet", plainKeys := false, apart := false, narrowed := true }
def FnExactStretchSheetUptoSaid : Prop := fnExactStretchSheetUptoRow.holds Try.pinned (OpenSpec.upto fnExactStretchSheetSpec)

/-- 'laws.FnExactShownFor', WHERE WHAT IT READS IS OF BULK AT MOST 1048576: true; the input reads as it did. -/
def fnExactShownForUptoRow : OpenClaim := { program := "ythkpefdjhdemeac", sum := "8164ccba5b1708f43d6fe61ed585208f02cb048e5f712a88785f150515349d8e", func := "loop.example/g01340/laws.FnExactShownFor", spec := "fnExactShownFor", plainKeys := false, apart := false, narrowed := true }
def FnExactShownForUptoSaid : Prop := fnExactShownForUptoRow.holds Try.pinned (OpenSpec.upto fnExactShownForSpec)

/-- 'laws.FnExactBookText', WHERE WHAT IT READS IS OF BULK AT MOST 1048576: true; the input reads as it did. -/
def fnExactBookTextUptoRow : OpenClaim := { program := "ythkpefdjhdemeac", sum := "8164ccba5b1708f43d6fe61ed585208f02cb048e5f712a88785f150515349d8e", func := "loop.example/g01340/laws.FnExactBookText", spec := "fnExactBookText", inPlace := ["internal/abi.NoEscape", "internal/bytealg.MakeNoZero"], unfollowed := true, recurses := true, plainKeys := false, apart := false, narrowed := true }
def FnExactBookTextUptoSaid : Prop := fnExactBookTextUptoRow.holds Try.pinned (OpenSpec.upto fnExactBookTextSpec)

end Rows
end Go.Proofs.Ythkpefdjhdemeac
