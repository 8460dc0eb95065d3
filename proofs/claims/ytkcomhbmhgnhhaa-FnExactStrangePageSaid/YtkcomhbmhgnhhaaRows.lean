/-
  No cell of these rows narrows 'for every input' (looked for: loops, veiled, ifaces, maps, wideKeys, modest, calm, conditions, laid).
  DERIVED. THE GIVEN ROWS OF THIS SEAT. 9 by the template 'for every input the law returns true; each argument reads behind the call as it read before'; 0 by the template 'total and deterministic' (their statements: YtkcomhbmhgnhhaaTotals.lean).
  GIVEN WITH THE SEED: the statements are not yours to turn. If you find one false, say at which input.
  Laid BY PROGRAM, IN A SANDBOX (cutbox-rows.mjs): the forced cells as the released guide's own fill.sh prints them over the translation ba0dac8fec454174… (all of the seat's roots in one cut). By AI agents, Wed Nov 11 2026. No macro, syntax, notation, axiom, sorry.
-/
import Derived.Test.YtkcomhbmhgnhhaaChecked
import GoSem.Claim
import GoSem.ClaimJoined
import GoSem.ClaimMapViews
import Derived.JoinedTies
import Derived.KernelRfl
namespace Go.Proofs.Ytkcomhbmhgnhhaa
/- THE CELL 'sum', in the pinned program and in every row, IS THE sha256 OF THE DUMP (.gsa) THAT YtkcomhbmhgnhhaaProg.lean LOADS. Nothing in Lean hashes anything: it is a label: what it is worth is what the hold of that sum in a sandbox is worth. -/
noncomputable def Try.pinned : Pinned := { name := "ytkcomhbmhgnhhaa", sum := "ba0dac8fec4541742d1c5aa9f8f242502e17ce9c8efee823075c9a3348804fd5", checked := Try.checked }
namespace Rows
def none {H : Type} : Left H := { results := [], args := [] }

/-- 'laws.FnExactValidPart': WHATEVER THE INPUT: true; the input reads as it did. -/
def fnExactValidPartSpec : ChangeSpec := { name := "fnExactValidPart", fn := fun _ => fun
  | [d] => { results := [.lit (.bool true)], args := [d] }
  | _ => none }
def fnExactValidPartRow : OpenClaim := { program := "ytkcomhbmhgnhhaa", sum := "ba0dac8fec4541742d1c5aa9f8f242502e17ce9c8efee823075c9a3348804fd5", func := "loop.example/g01340/laws.FnExactValidPart", spec := "fnExactValidPart", plainKeys := false, apart := false }
def FnExactValidPartSaid : Prop := fnExactValidPartRow.holds Try.pinned (OpenSpec.ofChange fnExactValidPartSpec)

/-- ITS FALSE NEIGHBOUR: 'it returns false'. Refute it at one input. -/
def fnExactValidPartWrong : ChangeSpec := { name := "fnExactValidPart", fn := fun _ => fun
  | [d] => { results := [.lit (.bool false)], args := [d] }
  | _ => none }
def FnExactValidPartWrongFalsely : Prop := fnExactValidPartRow.holds Try.pinned (OpenSpec.ofChange fnExactValidPartWrong)

/-- 'laws.FnExactStrangePage': WHATEVER THE INPUT: true; the input reads as it did. -/
def fnExactStrangePageSpec : ChangeSpec := { name := "fnExactStrangePage", fn := fun _ => fun
  | [d] => { results := [.lit (.bool true)], args := [d] }
  | _ => none }
def fnExactStrangePageRow : OpenClaim := { program := "ytkcomhbmhgnhhaa", sum := "ba0dac8fec4541742d1c5aa9f8f242502e17ce9c8efee823075c9a3348804fd5", func := "loop.example/g01340/laws.FnExactStrangePage", spec := "fnExactStrangePage", unfollowed := true, recurses := true, plainKeys := false, apart := false }
def FnExactStrangePageSaid : Prop := fnExactStrangePageRow.holds Try.pinned (OpenSpec.ofChange fnExactStrangePageSpec)

/-- ITS FALSE NEIGHBOUR: 'it returns false'. Refute it at one input. -/
def fnExactStrangePageWrong : ChangeSpec := { name := "fnExactStrangePage", fn := fun _ => fun
  | [d] => { results := [.lit (.bool false)], args := [d] }
  | _ => none }
def FnExactStrangePageWrongFalsely : Prop := fnExactStrangePageRow.holds Try.pinned (OpenSpec.ofChange fnExactStrangePageWrong)

/-- 'laws.FnExactMixedOf': WHATEVER THE INPUT: true; the input reads as it did. -/
def fnExactMixedOfSpec : ChangeSpec := { name := "fnExactMixedOf", fn := fun _ => fun
  | [d1, d2] => { results := [.lit (.bool true)], args := [d1, d2] }
  | _ => none }
def fnExactMixedOfRow : OpenClaim := { program := "ytkcomhbmhgnhhaa", sum := "ba0dac8fec4541742d1c5aa9f8f242502e17ce9c8efee823075c9a3348804fd5", func := "loop.example/g01340/laws.FnExactMixedOf", spec := "fnExactMixedOf", unfollowed := true, recurses := true, plainKeys := false, apart := false }
def FnExactMixedOfSaid : Prop := fnExactMixedOfRow.holds Try.pinned (OpenSpec.ofChange fnExactMixedOfSpec)

/-- ITS FALSE NEIGHBOUR: 'it returns false'. Refute it at one input. -/
def fnExactMixedOfWrong : ChangeSpec := { name := "fnExactMixedOf", fn := fun _ => fun
  | [d1, d2] => { results := [.lit (.bool false)], args := [d1, d2] }
  | _ => none }
def FnExactMixedOfWrongFalsely : Prop := fnExactMixedOfRow.holds Try.pinned (OpenSpec.ofChange fnExactMixedOfWrong)

/-- 'laws.FnExactNearestOrder': WHATEVER THE INPUT: true; the input reads as it did. -/
def fnExactNearestOrderSpec : ChangeSpec := { name := "fnExactNearestOrder", fn := fun _ => fun
  | [d1, d2] => { results := [.lit (.bool true)], args := [d1, d2] }
  | _ => none }
def fnExactNearestOrderRow : OpenClaim := { program := "ytkcomhbmhgnhhaa", sum := "ba0dac8fec4541742d1c5aa9f8f242502e17ce9c8efee823075c9a3348804fd5", func := "loop.example/g01340/laws.FnExactNearestOrder", spec := "fnExactNearestOrder", unfollowed := true, recurses := true, plainKeys := false, apart := false }
def FnExactNearestOrderSaid : Prop := fnExactNearestOrderRow.holds Try.pinned (OpenSpec.ofChange fnExactNearestOrderSpec)

/-- ITS FALSE NEIGHBOUR: 'it returns false'. Refute it at one input. -/
def fnExactNearestOrderWrong : ChangeSpec := { name := "fnExactNearestOrder", fn := fun _ => fun
  | [d1, d2] => { results := [.lit (.bool false)], args := [d1, d2] }
  | _ => none }
def FnExactNearestOrderWrongFalsely : Prop := fnExactNearestOrderRow.holds Try.pinned (OpenSpec.ofChange fnExactNearestOrderWrong)

/-- 'laws.FnExactLocalOrder': WHATEVER THE INPUT: true; the input reads as it did. -/
def fnExactLocalOrderSpec : ChangeSpec := { name := "fnExactLocalOrder", fn := fun _ => fun
  | [d] => { results := [.lit (.bool true)], args := [d] }
  | _ => none }
def fnExactLocalOrderRow : OpenClaim := { program := "ytkcomhbmhgnhhaa", sum := "ba0dac8fec4541742d1c5aa9f8f242502e17ce9c8efee823075c9a3348804fd5", func := "loop.example/g01340/laws.FnExactLocalOrder", spec := "fnExactLocalOrder", unfollowed := true, recurses := true, plainKeys := false, apart := false }
def FnExactLocalOrderSaid : Prop := fnExactLocalOrderRow.holds Try.pinned (OpenSpec.ofChange fnExactLocalOrderSpec)

/-- ITS FALSE NEIGHBOUR: 'it returns false'. Refute it at one input. -/
def fnExactLocalOrderWrong : ChangeSpec := { name := "fnExactLocalOrder", fn := fun _ => fun
  | [d] => { results := [.lit (.bool false)], args := [d] }
  | _ => none }
def FnExactLocalOrderWrongFalsely : Prop := fnExactLocalOrderRow.holds Try.pinned (OpenSpec.ofChange fnExactLocalOrderWrong)

/-- 'laws.FnExactNearestPages': WHATEVER THE INPUT: true; the input reads as it did. -/
def fnExactNearestPagesSpec : ChangeSpec := { name := "fnExactNearestPages", fn := fun _ => fun
  | [d1, d2, d3] => { results := [.lit (.bool true)], args := [d1, d2, d3] }
  | _ => none }
def fnExactNearestPagesRow : OpenClaim := { program := "ytkcomhbmhgnhhaa", sum := "ba0dac8fec4541742d1c5aa9f8f242502e17ce9c8efee823075c9a3348804fd5", func := "loop.example/g01340/laws.FnExactNearestPages", spec := "fnExactNearestPages", unfollowed := true, recurses := true, plainKeys := false, apart := false }
def FnExactNearestPagesSaid : Prop := fnExactNearestPagesRow.holds Try.pinned (OpenSpec.ofChange fnExactNearestPagesSpec)

/-- ITS FALSE NEIGHBOUR: 'it returns false'. Refute it at one input. -/
def fnExactNearestPagesWrong : ChangeSpec := { name := "fnExactNearestPages", fn := fun _ => fun
  | [d1, d2, d3] => { results := [.lit (.bool false)], args := [d1, d2, d3] }
  | _ => none }
def FnExactNearestPagesWrongFalsely : Prop := fnExactNearestPagesRow.holds Try.pinned (OpenSpec.ofChange fnExactNearestPagesWrong)

/-- 'laws.FnExactTreeBound': WHATEVER THE INPUT: true; the input reads as it did. -/
def fnExactTreeBoundSpec : ChangeSpec := { name := "fnExactTreeBound", fn := fun _ => fun
  | [d] => { results := [.lit (.bool true)], args := [d] }
  | _ => none }
def fnExactTreeBoundRow : OpenClaim := { program := "ytkcomhbmhgnhhaa", sum := "ba0dac8fec4541742d1c5aa9f8f242502e17ce9c8efee823075c9a3348804fd5", func := "loop.example/g01340/laws.FnExactTreeBound", spec := "fnExactTreeBound", unfollowed := true, recurses := true, plainKeys := false, apart := false }
def FnExactTreeBoundSaid : Prop := fnExactTreeBoundRow.holds Try.pinned (OpenSpec.ofChange fnExactTreeBoundSpec)

/-- ITS FALSE NEIGHBOUR: 'it returns false'. Refute it at one input. -/
def fnExactTreeBoundWrong : ChangeSpec := { name := "fnExactTreeBound", fn := fun _ => fun
  | [d] => { results := [.lit (.bool false)], args := [d] }
  | _ => none }
def FnExactTreeBoundWrongFalsely : Prop := fnExactTreeBoundRow.holds Try.pinned (OpenSpec.ofChange fnExactTreeBoundWrong)

/-- 'laws.FnExactUnmix': WHATEVER THE INPUT: true; the input reads as it did. -/
def fnExactUnmixSpec : ChangeSpec := { name := "fnExactUnmix", fn := fun _ => fun
  | [d] => { results := [.lit (.bool true)], args := [d] }
  | _ => none }
def fnExactUnmixRow : OpenClaim := { program := "ytkcomhbmhgnhhaa", sum := "ba0dac8fec4541742d1c5aa9f8f242502e17ce9c8efee823075c9a3348804fd5", func := "loop.example/g01340/laws.FnExactUnmix", spec := "fnExactUnmix", unfollowed := true, recurses := true, plainKeys := false, apart := false }
def FnExactUnmixSaid : Prop := fnExactUnmixRow.holds Try.pinned (OpenSpec.ofChange fnExactUnmixSpec)

/-- ITS FALSE NEIGHBOUR: 'it returns false'. Refute it at one input. -/
def fnExactUnmixWrong : ChangeSpec := { name := "fnExactUnmix", fn := fun _ => fun
  | [d] => { results := [.lit (.bool false)], args := [d] }
  | _ => none }
def FnExactUnmixWrongFalsely : Prop := fnExactUnmixRow.holds Try.pinned (OpenSpec.ofChange fnExactUnmixWrong)

/-- 'laws.FnExactBestOrder': WHATEVER THE INPUT: true; the input reads as it did. -/
def fnExactBestOrderSpec : ChangeSpec := { name := "fnExactBestOrder", fn := fun _ => fun
  | [d1, d2] => { results := [.lit (.bool true)], args := [d1, d2] }
  | _ => none }
def fnExactBestOrderRow : OpenClaim := { program := "ytkcomhbmhgnhhaa", sum := "ba0dac8fec4541742d1c5aa9f8f242502e17ce9c8efee823075c9a3348804fd5", func := "loop.example/g01340/laws.FnExactBestOrder", spec := "fnExactBestOrder", unfollowed := true, recurses := true, plainKeys := false, apart := false }
def FnExactBestOrderSaid : Prop := fnExactBestOrderRow.holds Try.pinned (OpenSpec.ofChange fnExactBestOrderSpec)

/-- ITS FALSE NEIGHBOUR: 'it returns false'. Refute it at one input. -/
def fnExactBestOrderWrong : ChangeSpec := { name := "fnExactBestOrder", fn := fun _ => fun
  | [d1, d2] => { results := [.lit (.bool false)], args := [d1, d2] }
  | _ => none }
def FnExactBestOrderWrongFalsely : Prop := fnExactBestOrderRow.holds Try.pinned (OpenSpec.ofChange fnExactBestOrderWrong)

/- THE SECOND FORM. 'bulk': how many values and letters a reading holds, each counted each time it is reached (what is shared counts as often as it is met; a slice's spare places count too). A statement '..UptoSaid' is the law's where the arguments, and the package variables that the reading takes, are together of bulk at most 1048576: NARROWER than '..Said'. Prove '..Said' where nothing that the law and all that it calls make is longer than what came in: it says more and counts as full. Else prove '..UptoSaid'. A law counts once. -/
mutual
def uptoBulk {H : Type} : DataW H → Nat
  | .lit (.string bytes) => bytes.length + 1
  | .lit _ => 1
  | .nil => 1
  | .ptr d => uptoBulk d + 1
  | .slice elems spare => uptoBulkAll elems + uptoBulkAll spare + 1
  | .agg parts => uptoBulkAll parts + 1
  | .iface _ d => uptoBulk d + 1
  | .map entries => uptoBulkEntries entries + 1
  | .held _ => 1
def uptoBulkAll {H : Type} : List (DataW H) → Nat
  | [] => 0
  | d :: r => uptoBulk d + uptoBulkAll r
def uptoBulkEntries {H : Type} : List (Lit × DataW H) → Nat
  | [] => 0
  | x :: r => uptoBulkEntry x + uptoBulkEntries r
def uptoBulkEntry {H : Type} : Lit × DataW H → Nat
  | (.string bytes, d) => bytes.length + uptoBulk d + 1
  | (_, d) => uptoBulk d + 1
 end
def uptoSmall : (H : Type) → List (DataW H) → Bool := fun _ ds => decide (uptoBulkAll ds ≤ 1048576)
def OpenSpec.upto (s : _root_.Go.ChangeSpec) : _root_.Go.OpenSpec := { _root_.Go.OpenSpec.ofChange s with cond := some uptoSmall }

/-- 'laws.FnExactValidPart', WHERE WHAT IT READS IS OF BULK AT MOST 1048576: true; the input reads as it did. -/
def fnExactValidPartUptoRow : OpenClaim := { program := "ytkcomhbmhgnhhaa", sum := "ba0dac8fec4541742d1c5aa9f8f242502e17ce9c8efee823075c9a3348804fd5", func := "loop.example/g01340/laws.FnExactValidPart", spec := "fnExactValidPart", plainKeys := false, apart := false, narrowed := true }
def FnExactValidPartUptoSaid : Prop := fnExactValidPartUptoRow.holds Try.pinned (OpenSpec.upto fnExactValidPartSpec)

/-- 'laws.FnExactStrangePage', WHERE WHAT IT READS IS OF BULK AT MOST 1048576: true; the input reads as it did. -/
def fnExactStrangePageUptoRow : OpenClaim := { program := "ytkcomhbmhgnhhaa", sum := "ba0dac8fec4541742d1c5aa9f8f242502e17ce9c8efee823075c9a3348804fd5", func := "loop.example/g01340/laws.FnExactStrangePage", spec := "fnExactStrangePage", unfollowed := true, recurses := true, plainKeys := false, apart := false, narrowed := true }
def FnExactStrangePageUptoSaid : Prop := fnExactStrangePageUptoRow.holds Try.pinned (OpenSpec.upto fnExactStrangePageSpec)

/-- 'laws.FnExactMixedOf', WHERE WHAT IT READS IS OF BULK AT MOST 1048576: true; the input reads as it did. -/
def fnExactMixedOfUptoRow : OpenClaim := { program := "ytkcomhbmhgnhhaa", sum := "ba0dac8fec4541742d1c5aa9f8f242502e17ce9c8efee823075c9a3348804fd5", func := "loop.example/g01340/laws.FnExactMixedOf", spec := "fnExactMixedOf", unfollowed := true, recurses := true, plainKeys := false, apart := false, narrowed := true }
def FnExactMixedOfUptoSaid : Prop := fnExactMixedOfUptoRow.holds Try.pinned (OpenSpec.upto fnExactMixedOfSpec)

/-- 'laws.FnExactNearestOrder', WHERE WHAT IT READS IS OF BULK AT MOST 1048576: true; the input reads as it did. -/
def fnExactNearestOrderUptoRow : OpenClaim := { program := "ytkcomhbmhgnhhaa", sum := "ba0dac8fec4541742d1c5aa9f8f242502e17ce9c8efee823075c9a3348804fd5", func := "loop.example/g01340/laws.FnExactNearestOrder", spec := "fnExactNearestOrder", unfollowed := true, recurses := true, plainKeys := false, apart := false, narrowed := true }
def FnExactNearestOrderUptoSaid : Prop := fnExactNearestOrderUptoRow.holds Try.pinned (OpenSpec.upto fnExactNearestOrderSpec)

/-- 'laws.FnExactLocalOrder', WHERE WHAT IT READS IS OF BULK AT MOST 1048576: true; the input reads as it did. -/
def fnExactLocalOrderUptoRow : OpenClaim := { program := "ytkcomhbmhgnhhaa", sum := "ba0dac8fec4541742d1c5aa9f8f242502e17ce9c8efee823075c9a3348804fd5", func := "loop.example/g01340/laws.FnExactLocalOrder", spec := "fnExactLocalOrder", unfollowed := true, recurses := true, plainKeys := false, apart := false, narrowed := true }
def FnExactLocalOrderUptoSaid : Prop := fnExactLocalOrderUptoRow.holds Try.pinned (OpenSpec.upto fnExactLocalOrderSpec)

/-- 'laws.FnExactNearestPages', WHERE WHAT IT READS IS OF BULK AT MOST 1048576: true; the input reads as it did. -/
def fnExactNearestPagesUptoRow : OpenClaim := { program := "ytkcomhbmhgnhhaa", sum := "ba0dac8fec4541742d1c5aa9f8f242502e17ce9c8efee823075c9a3348804fd5", func := "loop.example/g01340/laws.FnExactNearestPages", spec := "fnExactNearestPages", unfollowed := true, recurses := true, plainKeys := false, apart := false, narrowed := true }
def FnExactNearestPagesUptoSaid : Prop := fnExactNearestPagesUptoRow.holds Try.pinned (OpenSpec.upto fnExactNearestPagesSpec)

/-- 'laws.FnExactTreeBound', WHERE WHAT IT READS IS OF BULK AT MOST 1048576: true; the input reads as it did. -/
def fnExactTreeBoundUptoRow : OpenClaim := { program := "ytkcomhbmhgnhhaa", sum := "ba0dac8fec4541742d1c5aa9f8f242502e17ce9c8efee823075c9a3348804fd5", func := "loop.example/g01340/laws.FnExactTreeBound", spec := "fnExactTreeBound", unfollowed := true, recurses := true, plainKeys := false, apart := false, narrowed := true }
def FnExactTreeBoundUptoSaid : Prop := fnExactTreeBoundUptoRow.holds Try.pinned (OpenSpec.upto fnExactTreeBoundSpec)

/-- 'laws.FnExactUnmix', WHERE WHAT IT READS IS OF BULK AT MOST 1048576: true; the input reads as it did. -/
def fnExactUnmixUptoRow : OpenClaim := { program := "ytkcomhbmhgnhhaa", sum := "ba0dac8fec4541742d1c5aa9f8f242502e17ce9c8efee823075c9a3348804fd5", func := "loop.example/g01340/laws.FnExactUnmix", spec := "fnExactUnmix", unfollowed := true, recurses := true, plainKeys := false, apart := false, narrowed := true }
def FnExactUnmixUptoSaid : Prop := fnExactUnmixUptoRow.holds Try.pinned (OpenSpec.upto fnExactUnmixSpec)

/-- 'laws.FnExactBestOrder', WHERE WHAT IT READS IS OF BULK AT MOST 1048576: true; the input reads as it did. -/
def fnExactBestOrderUptoRow : OpenClaim := { program := "ytkcomhbmhgnhhaa", sum := "ba0dac8fec4541742d1c5aa9f8f242502e17ce9c8efee823075c9a3348804fd5", func := "loop.example/g01340/laws.FnExactBestOrder", spec := "fnExactBestOrder", unfollowed := true, recurses := true, plainKeys := false, apart := false, narrowed := true }
def FnExactBestOrderUptoSaid : Prop := fnExactBestOrderUptoRow.holds Try.pinned (OpenSpec.upto fnExactBestOrderSpec)

end Rows
end Go.Proofs.Ytkcomhbmhgnhhaa
