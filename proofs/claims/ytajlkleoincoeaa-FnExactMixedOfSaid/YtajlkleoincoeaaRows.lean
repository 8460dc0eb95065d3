/-
  No cell of these rows narrows 'for every input' (looked for: loops, veiled, ifaces, maps, wideKeys, modest, calm, conditions, laid).
  DERIVED. THE GIVEN ROWS OF THIS SEAT. 12 by the template 'for every input the law returns true; each argument reads behind the call as it read before'; 0 by the template 'total and deterministic' (their statements: YtajlkleoincoeaaTotals.lean).
  GIVEN WITH THE SEED: the statements are not yours to turn. If you find one false, say at which input.
  Laid BY PROGRAM, IN A SANDBOX (cutbox-rows.mjs): the forced cells as the released guide's own fill.sh prints them over the translation 1eb55c1c8d115b7f… (all of the seat's roots in one cut). By AI agents, Wed Nov 11 2026. No macro, syntax, notation, axiom, sorry.
-/
import Derived.Test.YtajlkleoincoeaaChecked
import GoSem.Claim
import GoSem.ClaimJoined
import GoSem.ClaimMapViews
import Derived.JoinedTies
import Derived.KernelRfl
namespace Go.Proofs.Ytajlkleoincoeaa
/- THE CELL 'sum', in the pinned program and in every row, IS THE sha256 OF THE DUMP (.gsa) THAT YtajlkleoincoeaaProg.lean LOADS. Nothing in Lean hashes anything: it is a label: what it is worth is what the hold of that sum in a sandbox is worth. -/
noncomputable def Try.pinned : Pinned := { name := "ytajlkleoincoeaa", sum := "1eb55c1c8d115b7f9a6ebc763aacf061e3534bbfa902b42052b7ac63f6a21c1b", checked := Try.checked }
namespace Rows
def none {H : Type} : Left H := { results := [], args := [] }

/-- 'laws.FnExactValidPart': WHATEVER THE INPUT: true; the input reads as it did. -/
def fnExactValidPartSpec : ChangeSpec := { name := "fnExactValidPart", fn := fun _ => fun
  | [d] => { results := [.lit (.bool true)], args := [d] }
  | _ => none }
def fnExactValidPartRow : OpenClaim := { program := "ytajlkleoincoeaa", sum := "1eb55c1c8d115b7f9a6ebc763aacf061e3534bbfa902b42052b7ac63f6a21c1b", func := "loop.example/g01340/laws.FnExactValidPart", spec := "fnExactValidPart", plainKeys := false, apart := false }
def FnExactValidPartSaid : Prop := fnExactValidPartRow.holds Try.pinned (OpenSpec.ofChange fnExactValidPartSpec)

/-- ITS FALSE NEIGHBOUR: 'it returns false'. Refute it at one input. -/
def fnExactValidPartWrong : ChangeSpec := { name := "fnExactValidPart", fn := fun _ => fun
  | [d] => { results := [.lit (.bool false)], args := [d] }
  | _ => none }
def FnExactValidPartWrongFalsely : Prop := fnExactValidPartRow.holds Try.pinned (OpenSpec.ofChange fnExactValidPartWrong)

/-- 'laws.FnExactMixedOf': WHATEVER THE INPUT: true; the input reads as it did. -/
def fnExactMixedOfSpec : ChangeSpec := { name := "fnExactMixedOf", fn := fun _ => fun
  | [d1, d2] => { results := [.lit (.bool true)], args := [d1, d2] }
  | _ => none }
def fnExactMixedOfRow : OpenClaim := { program := "ytajlkleoincoeaa", sum := "1eb55c1c8d115b7f9a6ebc763aacf061e3534bbfa902b42052b7ac63f6a21c1b", func := "loop.example/g01340/laws.FnExactMixedOf", spec := "fnExactMixedOf", unfollowed := true, recurses := true, plainKeys := false, apart := false }
def FnExactMixedOfSaid : Prop := fnExactMixedOfRow.holds Try.pinned (OpenSpec.ofChange fnExactMixedOfSpec)

/-- ITS FALSE NEIGHBOUR: 'it returns false'. Refute it at one input. -/
def fnExactMixedOfWrong : ChangeSpec := { name := "fnExactMixedOf", fn := fun _ => fun
  | [d1, d2] => { results := [.lit (.bool false)], args := [d1, d2] }
  | _ => none }
def FnExactMixedOfWrongFalsely : Prop := fnExactMixedOfRow.holds Try.pinned (OpenSpec.ofChange fnExactMixedOfWrong)

/-- 'laws.FnExactTreeBound': WHATEVER THE INPUT: true; the input reads as it did. -/
def fnExactTreeBoundSpec : ChangeSpec := { name := "fnExactTreeBound", fn := fun _ => fun
  | [d] => { results := [.lit (.bool true)], args := [d] }
  | _ => none }
def fnExactTreeBoundRow : OpenClaim := { program := "ytajlkleoincoeaa", sum := "1eb55c1c8d115b7f9a6ebc763aacf061e3534bbfa902b42052b7ac63f6a21c1b", func := "loop.example/g01340/laws.FnExactTreeBound", spec := "fnExactTreeBound", unfollowed := true, recurses := true, plainKeys := false, apart := false }
def FnExactTreeBoundSaid : Prop := fnExactTreeBoundRow.holds Try.pinned (OpenSpec.ofChange fnExactTreeBoundSpec)

/-- ITS FALSE NEIGHBOUR: 'it returns false'. Refute it at one input. -/
def fnExactTreeBoundWrong : ChangeSpec := { name := "fnExactTreeBound", fn := fun _ => fun
  | [d] => { results := [.lit (.bool false)], args := [d] }
  | _ => none }
def FnExactTreeBoundWrongFalsely : Prop := fnExactTreeBoundRow.holds Try.pinned (OpenSpec.ofChange fnExactTreeBoundWrong)

/-- 'laws.FnExactNearestOrder': WHATEVER THE INPUT: true; the input reads as it did. -/
def fnExactNearestOrderSpec : ChangeSpec := { name := "fnExactNearestOrder", fn := fun _ => fun
  | [d1, d2] => { results := [.lit (.bool true)], args := [d1, d2] }
  | _ => none }
def fnExactNearestOrderRow : OpenClaim := { program := "ytajlkleoincoeaa", sum := "1eb55c1c8d115b7f9a6ebc763aacf061e3534bbfa902b42052b7ac63f6a21c1b", func := "loop.example/g01340/laws.FnExactNearestOrder", spec := "fnExactNearestOrder", unfollowed := true, recurses := true, plainKeys := false, apart := false }
def FnExactNearestOrderSaid : Prop := fnExactNearestOrderRow.holds Try.pinned (OpenSpec.ofChange fnExactNearestOrderSpec)

/-- ITS FALSE NEIGHBOUR: 'it returns false'. Refute it at one input. -/
def fnExactNearestOrderWrong : ChangeSpec := { name := "fnExactNearestOrder", fn := fun _ => fun
  | [d1, d2] => { results := [.lit (.bool false)], args := [d1, d2] }
  | _ => none }
def FnExactNearestOrderWrongFalsely : Prop := fnExactNearestOrderRow.holds Try.pinned (OpenSpec.ofChange fnExactNearestOrderWrong)

/-- 'laws.FnExactNearestPages': WHATEVER THE INPUT: true; the input reads as it did. -/
def fnExactNearestPagesSpec : ChangeSpec := { name := "fnExactNearestPages", fn := fun _ => fun
  | [d1, d2, d3] => { results := [.lit (.bool true)], args := [d1, d2, d3] }
  | _ => none }
def fnExactNearestPagesRow : OpenClaim := { program := "ytajlkleoincoeaa", sum := "1eb55c1c8d115b7f9a6ebc763aacf061e3534bbfa902b42052b7ac63f6a21c1b", func := "loop.example/g01340/laws.FnExactNearestPages", spec := "fnExactNearestPages", unfollowed := true, recurses := true, plainKeys := false, apart := false }
def FnExactNearestPagesSaid : Prop := fnExactNearestPagesRow.holds Try.pinned (OpenSpec.ofChange fnExactNearestPagesSpec)

/-- ITS FALSE NEIGHBOUR: 'it returns false'. Refute it at one input. -/
def fnExactNearestPagesWrong : ChangeSpec := { name := "fnExactNearestPages", fn := fun _ => fun
  | [d1, d2, d3] => { results := [.lit (.bool false)], args := [d1, d2, d3] }
  | _ => none }
def FnExactNearestPagesWrongFalsely : Prop := fnExactNearestPagesRow.holds Try.pinned (OpenSpec.ofChange fnExactNearestPagesWrong)

/-- 'laws.FnExactTurnsFor': WHATEVER THE INPUT: true; the input reads as it did. -/
def fnExactTurnsForSpec : ChangeSpec := { name := "fnExactTurnsFor", fn := fun _ => fun
  | [d1, d2] => { results := [.lit (.bool true)], args := [d1, d2] }
  | _ => none }
def fnExactTurnsForRow : OpenClaim := { program := "ytajlkleoincoeaa", sum := "1eb55c1c8d115b7f9a6ebc763aacf061e3534bbfa902b42052b7ac63f6a21c1b", func := "loop.example/g01340/laws.FnExactTurnsFor", spec := "fnExactTurnsFor", unfollowed := true, recurses := true, plainKeys := false, apart := false }
def FnExactTurnsForSaid : Prop := fnExactTurnsForRow.holds Try.pinned (OpenSpec.ofChange fnExactTurnsForSpec)

/-- ITS FALSE NEIGHBOUR: 'it returns false'. Refute it at one input. -/
def fnExactTurnsForWrong : ChangeSpec := { name := "fnExactTurnsFor", fn := fun _ => fun
  | [d1, d2] => { results := [.lit (.bool false)], args := [d1, d2] }
  | _ => none }
def FnExactTurnsForWrongFalsely : Prop := fnExactTurnsForRow.holds Try.pinned (OpenSpec.ofChange fnExactTurnsForWrong)

/-- 'laws.FnExactLocalOrder': WHATEVER THE INPUT: true; the input reads as it did. -/
def fnExactLocalOrderSpec : ChangeSpec := { name := "fnExactLocalOrder", fn := fun _ => fun
  | [d] => { results := [.lit (.bool true)], args := [d] }
  | _ => none }
def fnExactLocalOrderRow : OpenClaim := { program := "ytajlkleoincoeaa", sum := "1eb55c1c8d115b7f9a6ebc763aacf061e3534bbfa902b42052b7ac63f6a21c1b", func := "loop.example/g01340/laws.FnExactLocalOrder", spec := "fnExactLocalOrder", unfollowed := true, recurses := true, plainKeys := false, apart := false }
def FnExactLocalOrderSaid : Prop := fnExactLocalOrderRow.holds Try.pinned (OpenSpec.ofChange fnExactLocalOrderSpec)

/-- ITS FALSE NEIGHBOUR: 'it returns false'. Refute it at one input. -/
def fnExactLocalOrderWrong : ChangeSpec := { name := "fnExactLocalOrder", fn := fun _ => fun
  | [d] => { results := [.lit (.bool false)], args := [d] }
  | _ => none }
def FnExactLocalOrderWrongFalsely : Prop := fnExactLocalOrderRow.holds Try.pinned (OpenSpec.ofChange fnExactLocalOrderWrong)

/-- 'laws.FnExactTurnPages': WHATEVER THE INPUT: true; the input reads as it did. -/
def fnExactTurnPagesSpec : ChangeSpec := { name := "fnExactTurnPages", fn := fun _ => fun
  | [d1, d2] => { results := [.lit (.bool true)], args := [d1, d2] }
  | _ => none }
def fnExactTurnPagesRow : OpenClaim := { program := "ytajlkleoincoeaa", sum := "1eb55c1c8d115b7f9a6ebc763aacf061e3534bbfa902b42052b7ac63f6a21c1b", func := "loop.example/g01340/laws.FnExactTurnPages", spec := "fnExactTurnPages", unfollowed := true, recurses := true, plainKeys := false, apart := false }
def FnExactTurnPagesSaid : Prop := fnExactTurnPagesRow.holds Try.pinned (OpenSpec.ofChange fnExactTurnPagesSpec)

/-- ITS FALSE NEIGHBOUR: 'it returns false'. Refute it at one input. -/
def fnExactTurnPagesWrong : ChangeSpec := { name := "fnExactTurnPages", fn := fun _ => fun
  | [d1, d2] => { results := [.lit (.bool false)], args := [d1, d2] }
  | _ => none }
def FnExactTurnPagesWrongFalsely : Prop := fnExactTurnPagesRow.holds Try.pinned (OpenSpec.ofChange fnExactTurnPagesWrong)

/-- 'laws.FnExactUnmix': WHATEVER THE INPUT: true; the input reads as it did. -/
def fnExactUnmixSpec : ChangeSpec := { name := "fnExactUnmix", fn := fun _ => fun
  | [d] => { results := [.lit (.bool true)], args := [d] }
  | _ => none }
def fnExactUnmixRow : OpenClaim := { program := "ytajlkleoincoeaa", sum := "1eb55c1c8d115b7f9a6ebc763aacf061e3534bbfa902b42052b7ac63f6a21c1b", func := "loop.example/g01340/laws.FnExactUnmix", spec := "fnExactUnmix", unfollowed := true, recurses := true, plainKeys := false, apart := false }
def FnExactUnmixSaid : Prop := fnExactUnmixRow.holds Try.pinned (OpenSpec.ofChange fnExactUnmixSpec)

/-- ITS FALSE NEIGHBOUR: 'it returns false'. Refute it at one input. -/
def fnExactUnmixWrong : ChangeSpec := { name := "fnExactUnmix", fn := fun _ => fun
  | [d] => { results := [.lit (.bool false)], args := [d] }
  | _ => none }
def FnExactUnmixWrongFalsely : Prop := fnExactUnmixRow.holds Try.pinned (OpenSpec.ofChange fnExactUnmixWrong)

/-- 'laws.FnExactBestOrder': WHATEVER THE INPUT: true; the input reads as it did. -/
def fnExactBestOrderSpec : ChangeSpec := { name := "fnExactBestOrder", fn := fun _ => fun
  | [d1, d2] => { results := [.lit (.bool true)], args := [d1, d2] }
  | _ => none }
def fnExactBestOrderRow : OpenClaim := { program := "ytajlkleoincoeaa", sum := "1eb55c1c8d115b7f9a6ebc763aacf061e3534bbfa902b42052b7ac63f6a21c1b", func := "loop.example/g01340/laws.FnExactBestOrder", spec := "fnExactBestOrder", unfollowed := true, recurses := true, plainKeys := false, apart := false }
def FnExactBestOrderSaid : Prop := fnExactBestOrderRow.holds Try.pinned (OpenSpec.ofChange fnExactBestOrderSpec)

/-- ITS FALSE NEIGHBOUR: 'it returns false'. Refute it at one input. -/
def fnExactBestOrderWrong : ChangeSpec := { name := "fnExactBestOrder", fn := fun _ => fun
  | [d1, d2] => { results := [.lit (.bool false)], args := [d1, d2] }
  | _ => none }
def FnExactBestOrderWrongFalsely : Prop := fnExactBestOrderRow.holds Try.pinned (OpenSpec.ofChange fnExactBestOrderWrong)

/-- 'laws.FnExactSheetOf': WHATEVER THE INPUT: true; the input reads as it did. -/
def fnExactSheetOfSpec : ChangeSpec := { name := "fnExactSheetOf", fn := fun _ => fun
  | [d] => { results := [.lit (.bool true)], args := [d] }
  | _ => none }
def fnExactSheetOfRow : OpenClaim := { program := "ytajlkleoincoeaa", sum := "1eb55c1c8d115b7f9a6ebc763aacf061e3534bbfa902b42052b7ac63f6a21c1b", func := "loop.example/g01340/laws.FnExactSheetOf", spec := "fnExactSheetOf", plainKeys := false, apart := false }
def FnExactSheetOfSaid : Prop := fnExactSheetOfRow.holds Try.pinned (OpenSpec.ofChange fnExactSheetOfSpec)

/-- ITS FALSE NEIGHBOUR: 'it returns false'. Refute it at one input. -/
def fnExactSheetOfWrong : ChangeSpec := { name := "fnExactSheetOf", fn := fun _ => fun
  | [d] => { results := [.lit (.bool false)], args := [d] }
  | _ => none }
def FnExactSheetOfWrongFalsely : Prop := fnExactSheetOfRow.holds Try.pinned (OpenSpec.ofChange fnExactSheetOfWrong)

/-- 'laws.FnExactShortSheet': WHATEVER THE INPUT: true; the input reads as it did. -/
def fnExactShortSheetSpec : ChangeSpec := { name := "fnExactShortSheet", fn := fun _ => fun
  | [d1, d2] => { results := [.lit (.bool true)], args := [d1, d2] }
  | _ => none }
def fnExactShortSheetRow : OpenClaim := { program := "ytajlkleoincoeaa", sum := "1eb55c1c8d115b7f9a6ebc763aacf061e3534bbfa902b42052b7ac63f6a21c1b", func := "loop.example/g01340/laws.FnExactShortSheet", spec := "fnExactShortSheet", unfollowed := true, recurses := true, plainKeys := false, apart := false }
def FnExactShortSheetSaid : Prop := fnExactShortSheetRow.holds Try.pinned (OpenSpec.ofChange fnExactShortSheetSpec)

/-- ITS FALSE NEIGHBOUR: 'it returns false'. Refute it at one input. -/
def fnExactShortSheetWrong : ChangeSpec := { name := "fnExactShortSheet", fn := fun _ => fun
  | [d1, d2] => { results := [.lit (.bool false)], args := [d1, d2] }
  | _ => none }
def FnExactShortSheetWrongFalsely : Prop := fnExactShortSheetRow.holds Try.pinned (OpenSpec.ofChange fnExactShortSheetWrong)

/- THE SECOND FORM. 'bulk': how many values and letters a reading holds, each counted each time it is reached (what is shared counts as often as it is met; a slice's spare places count too). A statement '..UptoSaid' is the law's where the arguments, and the package variables that the reading takes, are together of bulk at most 1048576: NARROWER than '..Said'. Prove '..Said' where nothing that the law and all that it calls make is longer than what came in: it says more and counts as full. Else prove '..UptoSaid'. A law counts once. -/
mutual
def uptoBulk {H : Type} : DataW H → Nat
  | .lit (.string bytes) => bytes.length + 1
  | .lit _ => 1
  | .nil => 1
  | .ptr d => uptoBulk d + 1
  | .slice elems spare => uptoBulkAll elems + uptoBulkAll spare + 1
  | .agg parts => uptoBulkAll parts + 1
  | .iface _ d => uptoBulk d + 1
  | .map entries => uptoBulkEntries entries + 1
  | .held _ => 1
def uptoBulkAll {H : Type} : List (DataW H) → Nat
  | [] => 0
  | d :: r => uptoBulk d + uptoBulkAll r
def uptoBulkEntries {H : Type} : List (Lit × DataW H) → Nat
  | [] => 0
  | x :: r => uptoBulkEntry x + uptoBulkEntries r
def uptoBulkEntry {H : Type} : Lit × DataW H → Nat
  | (.string bytes, d) => bytes.length + uptoBulk d + 1
  | (_, d) => uptoBulk d + 1
 end
def uptoSmall : (H : Type) → List (DataW H) → Bool := fun _ ds => decide (uptoBulkAll ds ≤ 1048576)
def OpenSpec.upto (s : _root_.Go.ChangeSpec) : _root_.Go.OpenSpec := { _root_.Go.OpenSpec.ofChange s with cond := some uptoSmall }

/-- 'laws.FnExactValidPart', WHERE WHAT IT READS IS OF BULK AT MOST 1048576: true; the input reads as it did. -/
def fnExactValidPartUptoRow : OpenClaim := { program := "ytajlkleoincoeaa", sum := "1eb55c1c8d115b7f9a6ebc763aacf061e3534bbfa902b42052b7ac63f6a21c1b", func := "loop.example/g01340/laws.FnExactValidPart", spec := "fnExactValidPart", plainKeys := false, apart := false, narrowed := true }
def FnExactValidPartUptoSaid : Prop := fnExactValidPartUptoRow.holds Try.pinned (OpenSpec.upto fnExactValidPartSpec)

/-- 'laws.FnExactMixedOf', WHERE WHAT IT READS IS OF BULK AT MOST 1048576: true; the input reads as it did. -/
def fnExactMixedOfUptoRow : OpenClaim := { program := "ytajlkleoincoeaa", sum := "1eb55c1c8d115b7f9a6ebc763aacf061e3534bbfa902b42052b7ac63f6a21c1b", func := "loop.example/g01340/laws.FnExactMixedOf", spec := "fnExactMixedOf", unfollowed := true, recurses := true, plainKeys := false, apart := false, narrowed := true }
def FnExactMixedOfUptoSaid : Prop := fnExactMixedOfUptoRow.holds Try.pinned (OpenSpec.upto fnExactMixedOfSpec)

/-- 'laws.FnExactTreeBound', WHERE WHAT IT READS IS OF BULK AT MOST 1048576: true; the input reads as it did. -/
def fnExactTreeBoundUptoRow : OpenClaim := { program := "ytajlkleoincoeaa", sum := "1eb55c1c8d115b7f9a6ebc763aacf061e3534bbfa902b42052b7ac63f6a21c1b", func := "loop.example/g01340/laws.FnExactTreeBound", spec := "fnExactTreeBound", unfollowed := true, recurses := true, plainKeys := false, apart := false, narrowed := true }
def FnExactTreeBoundUptoSaid : Prop := fnExactTreeBoundUptoRow.holds Try.pinned (OpenSpec.upto fnExactTreeBoundSpec)

/-- 'laws.FnExactNearestOrder', WHERE WHAT IT READS IS OF BULK AT MOST 1048576: true; the input reads as it did. -/
def fnExactNearestOrderUptoRow : OpenClaim := { program := "ytajlkleoincoeaa", sum := "1eb55c1c8d115b7f9a6ebc763aacf061e3534bbfa902b42052b7ac63f6a21c1b", func := "loop.example/g01340/laws.FnExactNearestOrder", spec := "fnExactNearestOrder", unfollowed := true, recurses := true, plainKeys := false, apart := false, narrowed := true }
def FnExactNearestOrderUptoSaid : Prop := fnExactNearestOrderUptoRow.holds Try.pinned (OpenSpec.upto fnExactNearestOrderSpec)

/-- 'laws.FnExactNearestPages', WHERE WHAT IT READS IS OF BULK AT MOST 1048576: true; the input reads as it did. -/
def fnExactNearestPagesUptoRow : OpenClaim := { program := "ytajlkleoincoeaa", sum := "1eb55c1c8d115b7f9a6ebc763aacf061e3534bbfa902b42052b7ac63f6a21c1b", func := "loop.example/g01340/laws.FnExactNearestPages", spec := "fnExactNearestPages", unfollowed := true, recurses := true, plainKeys := false, apart := false, narrowed := true }
def FnExactNearestPagesUptoSaid : Prop := fnExactNearestPagesUptoRow.holds Try.pinned (OpenSpec.upto fnExactNearestPagesSpec)

/-- 'laws.FnExactTurnsFor', WHERE WHAT IT READS IS OF BULK AT MOST 1048576: true; the input reads as it did. -/
def fnExactTurnsForUptoRow : OpenClaim := { program := "ytajlkleoincoeaa", sum := "1eb55c1c8d115b7f9a6ebc763aacf061e3534bbfa902b42052b7ac63f6a21c1b", func := "loop.example/g01340/laws.FnExactTurnsFor", spec := "fnExactTurnsFor", unfollowed := true, recurses := true, plainKeys := false, apart := false, narrowed := true }
def FnExactTurnsForUptoSaid : Prop := fnExactTurnsForUptoRow.holds Try.pinned (OpenSpec.upto fnExactTurnsForSpec)

/-- 'laws.FnExactLocalOrder', WHERE WHAT IT READS IS OF BULK AT MOST 1048576: true; the input reads as it did. -/
def fnExactLocalOrderUptoRow : OpenClaim := { program := "ytajlkleoincoeaa", sum := "1eb55c1c8d115b7f9a6ebc763aacf061e3534bbfa902b42052b7ac63f6a21c1b", func := "loop.example/g01340/laws.FnExactLocalOrder", spec := "fnExactLocalOrder", unfollowed := true, recurses := true, plainKeys := false, apart := false, narrowed := true }
def FnExactLocalOrderUptoSaid : Prop := fnExactLocalOrderUptoRow.holds Try.pinned (OpenSpec.upto fnExactLocalOrderSpec)

/-- 'laws.FnExactTurnPages', WHERE WHAT IT READS IS OF BULK AT MOST 1048576: true; the input reads as it did. -/
def fnExactTurnPagesUptoRow : OpenClaim := { program := "ytajlkleoincoeaa", sum := "1eb55c1c8d115b7f9a6ebc763aacf061e3534bbfa902b42052b7ac63f6a21c1b", func := "loop.example/g01340/laws.FnExactTurnPages", spec := "fnExactTurnPages", unfollowed := true, recurses := true, plainKeys := false, apart := false, narrowed := true }
def FnExactTurnPagesUptoSaid : Prop := fnExactTurnPagesUptoRow.holds Try.pinned (OpenSpec.upto fnExactTurnPagesSpec)

/-- 'laws.FnExactUnmix', WHERE WHAT IT READS IS OF BULK AT MOST 1048576: true; the input reads as it did. -/
def fnExactUnmixUptoRow : OpenClaim := { program := "ytajlkleoincoeaa", sum := "1eb55c1c8d115b7f9a6ebc763aacf061e3534bbfa902b42052b7ac63f6a21c1b", func := "loop.example/g01340/laws.FnExactUnmix", spec := "fnExactUnmix", unfollowed := true, recurses := true, plainKeys := false, apart := false, narrowed := true }
def FnExactUnmixUptoSaid : Prop := fnExactUnmixUptoRow.holds Try.pinned (OpenSpec.upto fnExactUnmixSpec)

/-- 'laws.FnExactBestOrder', WHERE WHAT IT READS IS OF BULK AT MOST 1048576: true; the input reads as it did. -/
def fnExactBestOrderUptoRow : OpenClaim := { program := "ytajlkleoincoeaa", sum := "1eb55c1c8d115b7f9a6ebc763aacf061e3534bbfa902b42052b7ac63f6a21c1b", func := "loop.example/g01340/laws.FnExactBestOrder", spec := "fnExactBestOrder", unfollowed := true, recurses := true, plainKeys := false, apart := false, narrowed := true }
def FnExactBestOrderUptoSaid : Prop := fnExactBestOrderUptoRow.holds Try.pinned (OpenSpec.upto fnExactBestOrderSpec)

/-- 'laws.FnExactSheetOf', WHERE WHAT IT READS IS OF BULK AT MOST 1048576: true; the input reads as it did. -/
def fnExactSheetOfUptoRow : OpenClaim := { program := "ytajlkleoincoeaa", sum := "1eb55c1c8d115b7f9a6ebc763aacf061e3534bbfa902b42052b7ac63f6a21c1b", func := "loop.example/g01340/laws.FnExactSheetOf", spec := "fnExactSheetOf", plainKeys := false, apart := false, narrowed := true }
def FnExactSheetOfUptoSaid : Prop := fnExactSheetOfUptoRow.holds Try.pinned (OpenSpec.upto fnExactSheetOfSpec)

/-- 'laws.FnExactShortSheet', WHERE WHAT IT READS IS OF BULK AT MOST 1048576: true; the input reads as it did. -/
def fnExactShortSheetUptoRow : OpenClaim := { program := "ytajlkleoincoeaa", sum := "1eb55c1c8d115b7f9a6ebc763aacf061e3534bbfa902b42052b7ac63f6a21c1b", func := "loop.example/g01340/laws.FnExactShortSheet", spec := "fnExactShortSheet", unfollowed := true, recurses := true, plainKeys := false, apart := false, narrowed := true }
def FnExactShortSheetUptoSaid : Prop := fnExactShortSheetUptoRow.holds Try.pinned (OpenSpec.upto fnExactShortSheetSpec)

end Rows
end Go.Proofs.Ytajlkleoincoeaa
