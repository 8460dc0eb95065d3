/-
  No cell of these rows narrows 'for every input' (looked for: loops, veiled, ifaces, maps, wideKeys, modest, calm, conditions, laid).
  DERIVED. THE GIVEN ROWS OF THIS SEAT. 7 by the template 'for every input the law returns true; each argument reads behind the call as it read before'; 0 by the template 'total and deterministic' (their statements: YtkcomhbmhgnhhabTotals.lean).
  GIVEN WITH THE SEED: the statements are not yours to turn. If you find one false, say at which input.
  Laid BY PROGRAM, IN A SANDBOX (cutbox-rows.mjs): the forced cells as the released guide's own fill.sh prints them over the translation f10098091defb8f9… (all of the seat's roots in one cut). By AI agents, Wed Nov 11 2026. No macro, syntax, notation, axiom, sorry.
-/
import Derived.Test.YtkcomhbmhgnhhabChecked
import GoSem.Claim
import GoSem.ClaimJoined
import GoSem.ClaimMapViews
import Derived.JoinedTies
import Derived.KernelRfl
namespace Go.Proofs.Ytkcomhbmhgnhhab
/- THE CELL 'sum', in the pinned program and in every row, IS THE sha256 OF THE DUMP (.gsa) THAT YtkcomhbmhgnhhabProg.lean LOADS. Nothing in Lean hashes anything: it is a label: what it is worth is what the hold of that sum in a sandbox is worth. -/
noncomputable def Try.pinned : Pinned := { name := "ytkcomhbmhgnhhab", sum := "f10098091defb8f92f260d637bc4d5c2220c5477d18909d7119cd1ca94e9cd11", checked := Try.checked }
namespace Rows
def none {H : Type} : Left H := { results := [], args := [] }

/-- 'laws.FnExactRepeatsIn': WHATEVER THE INPUT: true; the input reads as it did. -/
def fnExactRepeatsInSpec : ChangeSpec := { name := "fnExactRepeatsIn", fn := fun _ => fun
  | [d] => { results := [.lit (.bool true)], args := [d] }
  | _ => none }
def fnExactRepeatsInRow : OpenClaim := { program := "ytkcomhbmhgnhhab", sum := "f10098091defb8f92f260d637bc4d5c2220c5477d18909d7119cd1ca94e9cd11", func := "loop.example/g01340/laws.FnExactRepeatsIn", spec := "fnExactRepeatsIn", plainKeys := false, apart := false }
def FnExactRepeatsInSaid : Prop := fnExactRepeatsInRow.holds Try.pinned (OpenSpec.ofChange fnExactRepeatsInSpec)

/-- ITS FALSE NEIGHBOUR: 'it returns false'. Refute it at one input. -/
def fnExactRepeatsInWrong : ChangeSpec := { name := "fnExactRepeatsIn", fn := fun _ => fun
  | [d] => { results := [.lit (.bool false)], args := [d] }
  | _ => none }
def FnExactRepeatsInWrongFalsely : Prop := fnExactRepeatsInRow.holds Try.pinned (OpenSpec.ofChange fnExactRepeatsInWrong)

/-- 'laws.FnExactDistinctPages': WHATEVER THE INPUT: true; the input reads as it did. -/
def fnExactDistinctPagesSpec : ChangeSpec := { name := "fnExactDistinctPages", fn := fun _ => fun
  | [d] => { results := [.lit (.bool true)], args := [d] }
  | _ => none }
def fnExactDistinctPagesRow : OpenClaim := { program := "ytkcomhbmhgnhhab", sum := "f10098091defb8f92f260d637bc4d5c2220c5477d18909d7119cd1ca94e9cd11", func := "loop.example/g01340/laws.FnExactDistinctPages", spec := "fnExactDistinctPages", plainKeys := false, apart := false }
def FnExactDistinctPagesSaid : Prop := fnExactDistinctPagesRow.holds Try.pinned (OpenSpec.ofChange fnExactDistinctPagesSpec)

/-- ITS FALSE NEIGHBOUR: 'it returns false'. Refute it at one input. -/
def fnExactDistinctPagesWrong : ChangeSpec := { name := "fnExactDistinctPages", fn := fun _ => fun
  | [d] => { results := [.lit (.bool false)], args := [d] }
  | _ => none }
def FnExactDistinctPagesWrongFalsely : Prop := fnExactDistinctPagesRow.holds Try.pinned (OpenSpec.ofChange fnExactDistinctPagesWrong)

/-- 'laws.FnExactSheetOf': WHATEVER THE INPUT: true; the input reads as it did. -/
def fnExactSheetOfSpec : ChangeSpec := { name := "fnExactSheetOf", fn := fun _ => fun
  | [d] => { results := [.lit (.bool true)], args := [d] }
  | _ => none }
def fnExactSheetOfRow : OpenClaim := { program := "ytkcomhbmhgnhhab", sum := "f10098091defb8f92f260d637bc4d5c2220c5477d18909d7119cd1ca94e9cd11", func := "loop.example/g01340/laws.FnExactSheetOf", spec := "fnExactSheetOf", plainKeys := false, apart := false }
def FnExactSheetOfSaid : Prop := fnExactSheetOfRow.holds Try.pinned (OpenSpec.ofChange fnExactSheetOfSpec)

/-- ITS FALSE NEIGHBOUR: 'it returns false'. Refute it at one input. -/
def fnExactSheetOfWrong : ChangeSpec := { name := "fnExactSheetOf", fn := fun _ => fun
  | [d] => { results := [.lit (.bool false)], args := [d] }
  | _ => none }
def FnExactSheetOfWrongFalsely : Prop := fnExactSheetOfRow.holds Try.pinned (OpenSpec.ofChange fnExactSheetOfWrong)

/-- 'laws.FnExactShortSheet': WHATEVER THE INPUT: true; the input reads as it did. -/
def fnExactShortSheetSpec : ChangeSpec := { name := "fnExactShortSheet", fn := fun _ => fun
  | [d1, d2] => { results := [.lit (.bool true)], args := [d1, d2] }
  | _ => none }
def fnExactShortSheetRow : OpenClaim := { program := "ytkcomhbmhgnhhab", sum := "f10098091defb8f92f260d637bc4d5c2220c5477d18909d7119cd1ca94e9cd11", func := "loop.example/g01340/laws.FnExactShortSheet", spec := "fnExactShortSheet", unfollowed := true, recurses := true, plainKeys := false, apart := false }
def FnExactShortSheetSaid : Prop := fnExactShortSheetRow.holds Try.pinned (OpenSpec.ofChange fnExactShortSheetSpec)

/-- ITS FALSE NEIGHBOUR: 'it returns false'. Refute it at one input. -/
def fnExactShortSheetWrong : ChangeSpec := { name := "fnExactShortSheet", fn := fun _ => fun
  | [d1, d2] => { results := [.lit (.bool false)], args := [d1, d2] }
  | _ => none }
def FnExactShortSheetWrongFalsely : Prop := fnExactShortSheetRow.holds Try.pinned (OpenSpec.ofChange fnExactShortSheetWrong)

/-- 'laws.FnExactTurnsFor': WHATEVER THE INPUT: true; the input reads as it did. -/
def fnExactTurnsForSpec : ChangeSpec := { name := "fnExactTurnsFor", fn := fun _ => fun
  | [d1, d2] => { results := [.lit (.bool true)], args := [d1, d2] }
  | _ => none }
def fnExactTurnsForRow : OpenClaim := { program := "ytkcomhbmhgnhhab", sum := "f10098091defb8f92f260d637bc4d5c2220c5477d18909d7119cd1ca94e9cd11", func := "loop.example/g01340/laws.FnExactTurnsFor", spec := "fnExactTurnsFor", unfollowed := true, recurses := true, plainKeys := false, apart := false }
def FnExactTurnsForSaid : Prop := fnExactTurnsForRow.holds Try.pinned (OpenSpec.ofChange fnExactTurnsForSpec)

/-- ITS FALSE NEIGHBOUR: 'it returns false'. Refute it at one input. -/
def fnExactTurnsForWrong : ChangeSpec := { name := "fnExactTurnsFor", fn := fun _ => fun
  | [d1, d2] => { results := [.lit (.bool false)], args := [d1, d2] }
  | _ => none }
def FnExactTurnsForWrongFalsely : Prop := fnExactTurnsForRow.holds Try.pinned (OpenSpec.ofChange fnExactTurnsForWrong)

/-- 'laws.FnExactTurnPages': WHATEVER THE INPUT: true; the input reads as it did. -/
def fnExactTurnPagesSpec : ChangeSpec := { name := "fnExactTurnPages", fn := fun _ => fun
  | [d1, d2] => { results := [.lit (.bool true)], args := [d1, d2] }
  | _ => none }
def fnExactTurnPagesRow : OpenClaim := { program := "ytkcomhbmhgnhhab", sum := "f10098091defb8f92f260d637bc4d5c2220c5477d18909d7119cd1ca94e9cd11", func := "loop.example/g01340/laws.FnExactTurnPages", spec := "fnExactTurnPages", unfollowed := true, recurses := true, plainKeys := false, apart := false }
def FnExactTurnPagesSaid : Prop := fnExactTurnPagesRow.holds Try.pinned (OpenSpec.ofChange fnExactTurnPagesSpec)

/-- ITS FALSE NEIGHBOUR: 'it returns false'. Refute it at one input. -/
def fnExactTurnPagesWrong : ChangeSpec := { name := "fnExactTurnPages", fn := fun _ => fun
  | [d1, d2] => { results := [.lit (.bool false)], args := [d1, d2] }
  | _ => none }
def FnExactTurnPagesWrongFalsely : Prop := fnExactTurnPagesRow.holds Try.pinned (OpenSpec.ofChange fnExactTurnPagesWrong)

/-- 'laws.FnExactShownFor': WHATEVER THE INPUT: true; the input reads as it did. -/
def fnExactShownForSpec : ChangeSpec := { name := "fnExactShownFor", fn := fun _ => fun
  | [d1, d2] => { results := [.lit (.bool true)], args := [d1, d2] }
  | _ => none }
def fnExactShownForRow : OpenClaim := { program := "ytkcomhbmhgnhhab", sum := "f10098091defb8f92f260d637bc4d5c2220c5477d18909d7119cd1ca94e9cd11", func := "loop.example/g01340/laws.FnExactShownFor", spec := "fnExactShownFor", plainKeys := false, apart := false }
def FnExactShownForSaid : Prop := fnExactShownForRow.holds Try.pinned (OpenSpec.ofChange fnExactShownForSpec)

/-- ITS FALSE NEIGHBOUR: 'it returns false'. Refute it at one input. -/
def fnExactShownForWrong : ChangeSpec := { name := "fnExactShownFor", fn := fun _ => fun
  | [d1, d2] => { results := [.lit (.bool false)], args := [d1, d2] }
  | _ => none }
def FnExactShownForWrongFalsely : Prop := fnExactShownForRow.holds Try.pinned (OpenSpec.ofChange fnExactShownForWrong)

/- THE SECOND FORM. 'bulk': how many values and letters a reading holds, each counted each time it is reached (what is shared counts as often as it is met; a slice's spare places count too). A statement '..UptoSaid' is the law's where the arguments, and the package variables that the reading takes, are together of bulk at most 1048576: NARROWER than '..Said'. Prove '..Said' where nothing that the law and all that it calls make is longer than what came in: it says more and counts as full. Else prove '..UptoSaid'. A law counts once. -/
mutual
def uptoBulk {H : Type} : DataW H → Nat
  | .lit (.string bytes) => bytes.length + 1
  | .lit _ => 1
  | .nil => 1
  | .ptr d => uptoBulk d + 1
  | .slice elems spare => uptoBulkAll elems + uptoBulkAll spare + 1
  | .agg parts => uptoBulkAll parts + 1
  | .iface _ d => uptoBulk d + 1
  | .map entries => uptoBulkEntries entries + 1
  | .held _ => 1
def uptoBulkAll {H : Type} : List (DataW H) → Nat
  | [] => 0
  | d :: r => uptoBulk d + uptoBulkAll r
def uptoBulkEntries {H : Type} : List (Lit × DataW H) → Nat
  | [] => 0
  | x :: r => uptoBulkEntry x + uptoBulkEntries r
def uptoBulkEntry {H : Type} : Lit × DataW H → Nat
  | (.string bytes, d) => bytes.length + uptoBulk d + 1
  | (_, d) => uptoBulk d + 1
 end
def uptoSmall : (H : Type) → List (DataW H) → Bool := fun _ ds => decide (uptoBulkAll ds ≤ 1048576)
def OpenSpec.upto (s : _root_.Go.ChangeSpec) : _root_.Go.OpenSpec := { _root_.Go.OpenSpec.ofChange s with cond := some uptoSmall }

/-- 'laws.FnExactRepeatsIn', WHERE WHAT IT READS IS OF BULK AT MOST 1048576: true; the input reads as it did. -/
def fnExactRepeatsInUptoRow : OpenClaim := { program := "ytkcomhbmhgnhhab", sum := "f10098091defb8f92f260d637bc4d5c2220c5477d18909d7119cd1ca94e9cd11", func := "loop.example/g01340/laws.FnExactRepeatsIn", spec := "fnExactRepeatsIn", plainKeys := false, apart := false, narrowed := true }
def FnExactRepeatsInUptoSaid : Prop := fnExactRepeatsInUptoRow.holds Try.pinned (OpenSpec.upto fnExactRepeatsInSpec)

/-- 'laws.FnExactDistinctPages', WHERE WHAT IT READS IS OF BULK AT MOST 1048576: true; the input reads as it did. -/
def fnExactDistinctPagesUptoRow : OpenClaim := { program := "ytkcomhbmhgnhhab", sum := "f10098091defb8f92f260d637bc4d5c2220c5477d18909d7119cd1ca94e9cd11", func := "loop.example/g01340/laws.FnExactDistinctPages", spec := "fnExactDistinctPages", plainKeys := false, apart := false, narrowed := true }
def FnExactDistinctPagesUptoSaid : Prop := fnExactDistinctPagesUptoRow.holds Try.pinned (OpenSpec.upto fnExactDistinctPagesSpec)

/-- 'laws.FnExactSheetOf', WHERE WHAT IT READS IS OF BULK AT MOST 1048576: true; the input reads as it did. -/
def fnExactSheetOfUptoRow : OpenClaim := { program := "ytkcomhbmhgnhhab", sum := "f10098091defb8f92f260d637bc4d5c2220c5477d18909d7119cd1ca94e9cd11", func := "loop.example/g01340/laws.FnExactSheetOf", spec := "fnExactSheetOf", plainKeys := false, apart := false, narrowed := true }
def FnExactSheetOfUptoSaid : Prop := fnExactSheetOfUptoRow.holds Try.pinned (OpenSpec.upto fnExactSheetOfSpec)

/-- 'laws.FnExactShortSheet', WHERE WHAT IT READS IS OF BULK AT MOST 1048576: true; the input reads as it did. -/
def fnExactShortSheetUptoRow : OpenClaim := { program := "ytkcomhbmhgnhhab", sum := "f10098091defb8f92f260d637bc4d5c2220c5477d18909d7119cd1ca94e9cd11", func := "loop.example/g01340/laws.FnExactShortSheet", spec := "fnExactShortSheet", unfollowed := true, recurses := true, plainKeys := false, apart := false, narrowed := true }
def FnExactShortSheetUptoSaid : Prop := fnExactShortSheetUptoRow.holds Try.pinned (OpenSpec.upto fnExactShortSheetSpec)

/-- 'laws.FnExactTurnsFor', WHERE WHAT IT READS IS OF BULK AT MOST 1048576: true; the input reads as it did. -/
def fnExactTurnsForUptoRow : OpenClaim := { program := "ytkcomhbmhgnhhab", sum := "f10098091defb8f92f260d637bc4d5c2220c5477d18909d7119cd1ca94e9cd11", func := "loop.example/g01340/laws.FnExactTurnsFor", spec := "fnExactTurnsFor", unfollowed := true, recurses := true, plainKeys := false, apart := false, narrowed := true }
def FnExactTurnsForUptoSaid : Prop := fnExactTurnsForUptoRow.holds Try.pinned (OpenSpec.upto fnExactTurnsForSpec)

/-- 'laws.FnExactTurnPages', WHERE WHAT IT READS IS OF BULK AT MOST 1048576: true; the input reads as it did. -/
def fnExactTurnPagesUptoRow : OpenClaim := { program := "ytkcomhbmhgnhhab", sum := "f10098091defb8f92f260d637bc4d5c2220c5477d18909d7119cd1ca94e9cd11", func := "loop.example/g01340/laws.FnExactTurnPages", spec := "fnExactTurnPages", unfollowed := true, recurses := true, plainKeys := false, apart := false, narrowed := true }
def FnExactTurnPagesUptoSaid : Prop := fnExactTurnPagesUptoRow.holds Try.pinned (OpenSpec.upto fnExactTurnPagesSpec)

/-- 'laws.FnExactShownFor', WHERE WHAT IT READS IS OF BULK AT MOST 1048576: true; the input reads as it did. -/
def fnExactShownForUptoRow : OpenClaim := { program := "ytkcomhbmhgnhhab", sum := "f10098091defb8f92f260d637bc4d5c2220c5477d18909d7119cd1ca94e9cd11", func := "loop.example/g01340/laws.FnExactShownFor", spec := "fnExactShownFor", plainKeys := false, apart := false, narrowed := true }
def FnExactShownForUptoSaid : Prop := fnExactShownForUptoRow.holds Try.pinned (OpenSpec.upto fnExactShownForSpec)

end Rows
end Go.Proofs.Ytkcomhbmhgnhhab
