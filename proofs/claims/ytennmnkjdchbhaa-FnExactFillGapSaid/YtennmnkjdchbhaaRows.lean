/-
  No cell of these rows narrows 'for every input' (looked for: loops, veiled, ifaces, maps, wideKeys, modest, calm, conditions, laid).
  DERIVED. THE GIVEN ROWS OF THIS SEAT. 10 by the template 'for every input the law returns true; each argument reads behind the call as it read before'; 0 by the template 'total and deterministic' (their statements: YtennmnkjdchbhaaTotals.lean).
  GIVEN WITH THE SEED: the statements are not yours to turn. If you find one false, say at which input.
  Laid BY PROGRAM, IN A SANDBOX (cutbox-rows.mjs): the forced cells as the released guide's own fill.sh prints them over the translation 2c93e096264a54c7… (all of the seat's roots in one cut). By AI agents, Wed Nov 11 2026. No macro, syntax, notation, axiom, sorry.
-/
import Derived.Test.YtennmnkjdchbhaaChecked
import GoSem.Claim
import GoSem.ClaimJoined
import GoSem.ClaimMapViews
import Derived.JoinedTies
import Derived.KernelRfl
namespace Go.Proofs.Ytennmnkjdchbhaa
/- THE CELL 'sum', in the pinned program and in every row, IS THE sha256 OF THE DUMP (.gsa) THAT YtennmnkjdchbhaaProg.lean LOADS. Nothing in Lean hashes anything: it is a label: what it is worth is what the hold of that sum in a sandbox is worth. -/
noncomputable def Try.pinned : Pinned := { name := "ytennmnkjdchbhaa", sum := "2c93e096264a54c70fa5a3a66b9d92503324b43d4ae0afe8d5df07412b9e93d8", checked := Try.checked }
namespace Rows
def none {H : Type} : Left H := { results := [], args := [] }

/-- 'laws.FnExactIsOrder': WHATEVER THE INPUT: true; the input reads as it did. -/
def fnExactIsOrderSpec : ChangeSpec := { name := "fnExactIsOrder", fn := fun _ => fun
  | [d1, d2] => { results := [.lit (.bool true)], args := [d1, d2] }
  | _ => none }
def fnExactIsOrderRow : OpenClaim := { program := "ytennmnkjdchbhaa", sum := "2c93e096264a54c70fa5a3a66b9d92503324b43d4ae0afe8d5df07412b9e93d8", func := "loop.example/g01340/laws.FnExactIsOrder", spec := "fnExactIsOrder", apart := false }
def FnExactIsOrderSaid : Prop := fnExactIsOrderRow.holds Try.pinned (OpenSpec.ofChange fnExactIsOrderSpec)

/-- ITS FALSE NEIGHBOUR: 'it returns false'. Refute it at one input. -/
def fnExactIsOrderWrong : ChangeSpec := { name := "fnExactIsOrder", fn := fun _ => fun
  | [d1, d2] => { results := [.lit (.bool false)], args := [d1, d2] }
  | _ => none }
def FnExactIsOrderWrongFalsely : Prop := fnExactIsOrderRow.holds Try.pinned (OpenSpec.ofChange fnExactIsOrderWrong)

/-- 'laws.FnExactReorderBook': WHATEVER THE INPUT: true; the input reads as it did. -/
def fnExactReorderBookSpec : ChangeSpec := { name := "fnExactReorderBook", fn := fun _ => fun
  | [d1, d2] => { results := [.lit (.bool true)], args := [d1, d2] }
  | _ => none }
def fnExactReorderBookRow : OpenClaim := { program := "ytennmnkjdchbhaa", sum := "2c93e096264a54c70fa5a3a66b9d92503324b43d4ae0afe8d5df07412b9e93d8", func := "loop.example/g01340/laws.FnExactReorderBook", spec := "fnExactReorderBook", apart := false }
def FnExactReorderBookSaid : Prop := fnExactReorderBookRow.holds Try.pinned (OpenSpec.ofChange fnExactReorderBookSpec)

/-- ITS FALSE NEIGHBOUR: 'it returns false'. Refute it at one input. -/
def fnExactReorderBookWrong : ChangeSpec := { name := "fnExactReorderBook", fn := fun _ => fun
  | [d1, d2] => { results := [.lit (.bool false)], args := [d1, d2] }
  | _ => none }
def FnExactReorderBookWrongFalsely : Prop := fnExactReorderBookRow.holds Try.pinned (OpenSpec.ofChange fnExactReorderBookWrong)

/-- 'laws.FnExactOppositeOrder': WHATEVER THE INPUT: true; the input reads as it did. -/
def fnExactOppositeOrderSpec : ChangeSpec := { name := "fnExactOppositeOrder", fn := fun _ => fun
  | [d] => { results := [.lit (.bool true)], args := [d] }
  | _ => none }
def fnExactOppositeOrderRow : OpenClaim := { program := "ytennmnkjdchbhaa", sum := "2c93e096264a54c70fa5a3a66b9d92503324b43d4ae0afe8d5df07412b9e93d8", func := "loop.example/g01340/laws.FnExactOppositeOrder", spec := "fnExactOppositeOrder", apart := false }
def FnExactOppositeOrderSaid : Prop := fnExactOppositeOrderRow.holds Try.pinned (OpenSpec.ofChange fnExactOppositeOrderSpec)

/-- ITS FALSE NEIGHBOUR: 'it returns false'. Refute it at one input. -/
def fnExactOppositeOrderWrong : ChangeSpec := { name := "fnExactOppositeOrder", fn := fun _ => fun
  | [d] => { results := [.lit (.bool false)], args := [d] }
  | _ => none }
def FnExactOppositeOrderWrongFalsely : Prop := fnExactOppositeOrderRow.holds Try.pinned (OpenSpec.ofChange fnExactOppositeOrderWrong)

/-- 'laws.FnExactOrderJumps': WHATEVER THE INPUT: true; the input reads as it did. -/
def fnExactOrderJumpsSpec : ChangeSpec := { name := "fnExactOrderJumps", fn := fun _ => fun
  | [d1, d2] => { results := [.lit (.bool true)], args := [d1, d2] }
  | _ => none }
def fnExactOrderJumpsRow : OpenClaim := { program := "ytennmnkjdchbhaa", sum := "2c93e096264a54c70fa5a3a66b9d92503324b43d4ae0afe8d5df07412b9e93d8", func := "loop.example/g01340/laws.FnExactOrderJumps", spec := "fnExactOrderJumps", unfollowed := true, recurses := true, apart := false }
def FnExactOrderJumpsSaid : Prop := fnExactOrderJumpsRow.holds Try.pinned (OpenSpec.ofChange fnExactOrderJumpsSpec)

/-- ITS FALSE NEIGHBOUR: 'it returns false'. Refute it at one input. -/
def fnExactOrderJumpsWrong : ChangeSpec := { name := "fnExactOrderJumps", fn := fun _ => fun
  | [d1, d2] => { results := [.lit (.bool false)], args := [d1, d2] }
  | _ => none }
def FnExactOrderJumpsWrongFalsely : Prop := fnExactOrderJumpsRow.holds Try.pinned (OpenSpec.ofChange fnExactOrderJumpsWrong)

/-- 'laws.FnExactStrangePage': WHATEVER THE INPUT: true; the input reads as it did. -/
def fnExactStrangePageSpec : ChangeSpec := { name := "fnExactStrangePage", fn := fun _ => fun
  | [d] => { results := [.lit (.bool true)], args := [d] }
  | _ => none }
def fnExactStrangePageRow : OpenClaim := { program := "ytennmnkjdchbhaa", sum := "2c93e096264a54c70fa5a3a66b9d92503324b43d4ae0afe8d5df07412b9e93d8", func := "loop.example/g01340/laws.FnExactStrangePage", spec := "fnExactStrangePage", unfollowed := true, recurses := true, apart := false }
def FnExactStrangePageSaid : Prop := fnExactStrangePageRow.holds Try.pinned (OpenSpec.ofChange fnExactStrangePageSpec)

/-- ITS FALSE NEIGHBOUR: 'it returns false'. Refute it at one input. -/
def fnExactStrangePageWrong : ChangeSpec := { name := "fnExactStrangePage", fn := fun _ => fun
  | [d] => { results := [.lit (.bool false)], args := [d] }
  | _ => none }
def FnExactStrangePageWrongFalsely : Prop := fnExactStrangePageRow.holds Try.pinned (OpenSpec.ofChange fnExactStrangePageWrong)

/-- 'laws.FnExactWidestGap': WHATEVER THE INPUT: true; the input reads as it did. -/
def fnExactWidestGapSpec : ChangeSpec := { name := "fnExactWidestGap", fn := fun _ => fun
  | [d] => { results := [.lit (.bool true)], args := [d] }
  | _ => none }
def fnExactWidestGapRow : OpenClaim := { program := "ytennmnkjdchbhaa", sum := "2c93e096264a54c70fa5a3a66b9d92503324b43d4ae0afe8d5df07412b9e93d8", func := "loop.example/g01340/laws.FnExactWidestGap", spec := "fnExactWidestGap", unfollowed := true, recurses := true, apart := false }
def FnExactWidestGapSaid : Prop := fnExactWidestGapRow.holds Try.pinned (OpenSpec.ofChange fnExactWidestGapSpec)

/-- ITS FALSE NEIGHBOUR: 'it returns false'. Refute it at one input. -/
def fnExactWidestGapWrong : ChangeSpec := { name := "fnExactWidestGap", fn := fun _ => fun
  | [d] => { results := [.lit (.bool false)], args := [d] }
  | _ => none }
def FnExactWidestGapWrongFalsely : Prop := fnExactWidestGapRow.holds Try.pinned (OpenSpec.ofChange fnExactWidestGapWrong)

/-- 'laws.FnExactFillGap': WHATEVER THE INPUT: true; the input reads as it did. -/
def fnExactFillGapSpec : ChangeSpec := { name := "fnExactFillGap", fn := fun _ => fun
  | [d1, d2] => { results := [.lit (.bool true)], args := [d1, d2] }
  | _ => none }
def fnExactFillGapRow : OpenClaim := { program := "ytennmnkjdchbhaa", sum := "2c93e096264a54c70fa5a3a66b9d92503324b43d4ae0afe8d5df07412b9e93d8", func := "loop.example/g01340/laws.FnExactFillGap", spec := "fnExactFillGap", apart := false }
def FnExactFillGapSaid : Prop := fnExactFillGapRow.holds Try.pinned (OpenSpec.ofChange fnExactFillGapSpec)

/-- ITS FALSE NEIGHBOUR: 'it returns false'. Refute it at one input. -/
def fnExactFillGapWrong : ChangeSpec := { name := "fnExactFillGap", fn := fun _ => fun
  | [d1, d2] => { results := [.lit (.bool false)], args := [d1, d2] }
  | _ => none }
def FnExactFillGapWrongFalsely : Prop := fnExactFillGapRow.holds Try.pinned (OpenSpec.ofChange fnExactFillGapWrong)

/-- 'laws.FnExactMajorityOf': WHATEVER THE INPUT: true; the input reads as it did. -/
def fnExactMajorityOfSpec : ChangeSpec := { name := "fnExactMajorityOf", fn := fun _ => fun
  | [d1, d2, d3] => { results := [.lit (.bool true)], args := [d1, d2, d3] }
  | _ => none }
def fnExactMajorityOfRow : OpenClaim := { program := "ytennmnkjdchbhaa", sum := "2c93e096264a54c70fa5a3a66b9d92503324b43d4ae0afe8d5df07412b9e93d8", func := "loop.example/g01340/laws.FnExactMajorityOf", spec := "fnExactMajorityOf", apart := false }
def FnExactMajorityOfSaid : Prop := fnExactMajorityOfRow.holds Try.pinned (OpenSpec.ofChange fnExactMajorityOfSpec)

/-- ITS FALSE NEIGHBOUR: 'it returns false'. Refute it at one input. -/
def fnExactMajorityOfWrong : ChangeSpec := { name := "fnExactMajorityOf", fn := fun _ => fun
  | [d1, d2, d3] => { results := [.lit (.bool false)], args := [d1, d2, d3] }
  | _ => none }
def FnExactMajorityOfWrongFalsely : Prop := fnExactMajorityOfRow.holds Try.pinned (OpenSpec.ofChange fnExactMajorityOfWrong)

/-- 'laws.FnExactMendPage': WHATEVER THE INPUT: true; the input reads as it did. -/
def fnExactMendPageSpec : ChangeSpec := { name := "fnExactMendPage", fn := fun _ => fun
  | [d1, d2] => { results := [.lit (.bool true)], args := [d1, d2] }
  | _ => none }
def fnExactMendPageRow : OpenClaim := { program := "ytennmnkjdchbhaa", sum := "2c93e096264a54c70fa5a3a66b9d92503324b43d4ae0afe8d5df07412b9e93d8", func := "loop.example/g01340/laws.FnExactMendPage", spec := "fnExactMendPage", apart := false }
def FnExactMendPageSaid : Prop := fnExactMendPageRow.holds Try.pinned (OpenSpec.ofChange fnExactMendPageSpec)

/-- ITS FALSE NEIGHBOUR: 'it returns false'. Refute it at one input. -/
def fnExactMendPageWrong : ChangeSpec := { name := "fnExactMendPage", fn := fun _ => fun
  | [d1, d2] => { results := [.lit (.bool false)], args := [d1, d2] }
  | _ => none }
def FnExactMendPageWrongFalsely : Prop := fnExactMendPageRow.holds Try.pinned (OpenSpec.ofChange fnExactMendPageWrong)

/-- 'laws.FnExactMixedOf': WHATEVER THE INPUT: true; the input reads as it did. -/
def fnExactMixedOfSpec : ChangeSpec := { name := "fnExactMixedOf", fn := fun _ => fun
  | [d1, d2] => { results := [.lit (.bool true)], args := [d1, d2] }
  | _ => none }
def fnExactMixedOfRow : OpenClaim := { program := "ytennmnkjdchbhaa", sum := "2c93e096264a54c70fa5a3a66b9d92503324b43d4ae0afe8d5df07412b9e93d8", func := "loop.example/g01340/laws.FnExactMixedOf", spec := "fnExactMixedOf", unfollowed := true, recurses := true, apart := false }
def FnExactMixedOfSaid : Prop := fnExactMixedOfRow.holds Try.pinned (OpenSpec.ofChange fnExactMixedOfSpec)

/-- ITS FALSE NEIGHBOUR: 'it returns false'. Refute it at one input. -/
def fnExactMixedOfWrong : ChangeSpec := { name := "fnExactMixedOf", fn := fun _ => fun
  | [d1, d2] => { results := [.lit (.bool false)], args := [d1, d2] }
  | _ => none }
def FnExactMixedOfWrongFalsely : Prop := fnExactMixedOfRow.holds Try.pinned (OpenSpec.ofChange fnExactMixedOfWrong)

/- THE SECOND FORM. 'bulk': how many values and letters a reading holds, each counted each time it is reached (what is shared counts as often as it is met; a slice's spare places count too). A statement '..UptoSaid' is the law's where the arguments, and the package variables that the reading takes, are together of bulk at most 1048576: NARROWER than '..Said'. Prove '..Said' where nothing that the law and all that it calls make is longer than what came in: it says more and counts as full. Else prove '..UptoSaid'. A law counts once. -/
mutual
def uptoBulk {H : Type} : DataW H → Nat
  | .lit (.string bytes) => bytes.length + 1
  | .lit _ => 1
  | .nil => 1
  | .ptr d => uptoBulk d + 1
  | .slice elems spare => uptoBulkAll elems + uptoBulkAll spare + 1
  | .agg parts => uptoBulkAll parts + 1
  | .iface _ d => uptoBulk d + 1
  | .map entries => uptoBulkEntries entries + 1
  | .held _ => 1
def uptoBulkAll {H : Type} : List (DataW H) → Nat
  | [] => 0
  | d :: r => uptoBulk d + uptoBulkAll r
def uptoBulkEntries {H : Type} : List (Lit × DataW H) → Nat
  | [] => 0
  | x :: r => uptoBulkEntry x + uptoBulkEntries r
def uptoBulkEntry {H : Type} : Lit × DataW H → Nat
  | (.string bytes, d) => bytes.length + uptoBulk d + 1
  | (_, d) => uptoBulk d + 1
 end
def uptoSmall : (H : Type) → List (DataW H) → Bool := fun _ ds => decide (uptoBulkAll ds ≤ 1048576)
def OpenSpec.upto (s : _root_.Go.ChangeSpec) : _root_.Go.OpenSpec := { _root_.Go.OpenSpec.ofChange s with cond := some uptoSmall }

/-- 'laws.FnExactIsOrder', WHERE WHAT IT READS IS OF BULK AT MOST 1048576: true; the input reads as it did. -/
def fnExactIsOrderUptoRow : OpenClaim := { program := "ytennmnkjdchbhaa", sum := "2c93e096264a54c70fa5a3a66b9d92503324b43d4ae0afe8d5df07412b9e93d8", func := "loop.example/g01340/laws.FnExactIsOrder", spec := "fnExactIsOrder", apart := false, narrowed := true }
def FnExactIsOrderUptoSaid : Prop := fnExactIsOrderUptoRow.holds Try.pinned (OpenSpec.upto fnExactIsOrderSpec)

/-- 'laws.FnExactReorderBook', WHERE WHAT IT READS IS OF BULK AT MOST 1048576: true; the input reads as it did. -/
def fnExactReorderBookUptoRow : OpenClaim := { program := "ytennmnkjdchbhaa", sum := "2c93e096264a54c70fa5a3a66b9d92503324b43d4ae0afe8d5df07412b9e93d8", func := "loop.example/g01340/laws.FnExactReorderBook", spec := "fnExactReorderBook", apart := false, narrowed := true }
def FnExactReorderBookUptoSaid : Prop := fnExactReorderBookUptoRow.holds Try.pinned (OpenSpec.upto fnExactReorderBookSpec)

/-- 'laws.FnExactOppositeOrder', WHERE WHAT IT READS IS OF BULK AT MOST 1048576: true; the input reads as it did. -/
def fnExactOppositeOrderUptoRow : OpenClaim := { program := "ytennmnkjdchbhaa", sum := "2c93e096264a54c70fa5a3a66b9d92503324b43d4ae0afe8d5df07412b9e93d8", func := "loop.example/g01340/laws.FnExactOppositeOrder", spec := "fnExactOppositeOrder", apart := false, narrowed := true }
def FnExactOppositeOrderUptoSaid : Prop := fnExactOppositeOrderUptoRow.holds Try.pinned (OpenSpec.upto fnExactOppositeOrderSpec)

/-- 'laws.FnExactOrderJumps', WHERE WHAT IT READS IS OF BULK AT MOST 1048576: true; the input reads as it did. -/
def fnExactOrderJumpsUptoRow : OpenClaim := { program := "ytennmnkjdchbhaa", sum := "2c93e096264a54c70fa5a3a66b9d92503324b43d4ae0afe8d5df07412b9e93d8", func := "loop.example/g01340/laws.FnExactOrderJumps", spec := "fnExactOrderJumps", unfollowed := true, recurses := true, apart := false, narrowed := true }
def FnExactOrderJumpsUptoSaid : Prop := fnExactOrderJumpsUptoRow.holds Try.pinned (OpenSpec.upto fnExactOrderJumpsSpec)

/-- 'laws.FnExactStrangePage', WHERE WHAT IT READS IS OF BULK AT MOST 1048576: true; the input reads as it did. -/
def fnExactStrangePageUptoRow : OpenClaim := { program := "ytennmnkjdchbhaa", sum := "2c93e096264a54c70fa5a3a66b9d92503324b43d4ae0afe8d5df07412b9e93d8", func := "loop.example/g01340/laws.FnExactStrangePage", spec := "fnExactStrangePage", unfollowed := true, recurses := true, apart := false, narrowed := true }
def FnExactStrangePageUptoSaid : Prop := fnExactStrangePageUptoRow.holds Try.pinned (OpenSpec.upto fnExactStrangePageSpec)

/-- 'laws.FnExactWidestGap', WHERE WHAT IT READS IS OF BULK AT MOST 1048576: true; the input reads as it did. -/
def fnExactWidestGapUptoRow : OpenClaim := { program := "ytennmnkjdchbhaa", sum := "2c93e096264a54c70fa5a3a66b9d92503324b43d4ae0afe8d5df07412b9e93d8", func := "loop.example/g01340/laws.FnExactWidestGap", spec := "fnExactWidestGap", unfollowed := true, recurses := true, apart := false, narrowed := true }
def FnExactWidestGapUptoSaid : Prop := fnExactWidestGapUptoRow.holds Try.pinned (OpenSpec.upto fnExactWidestGapSpec)

/-- 'laws.FnExactFillGap', WHERE WHAT IT READS IS OF BULK AT MOST 1048576: true; the input reads as it did. -/
def fnExactFillGapUptoRow : OpenClaim := { program := "ytennmnkjdchbhaa", sum := "2c93e096264a54c70fa5a3a66b9d92503324b43d4ae0afe8d5df07412b9e93d8", func := "loop.example/g01340/laws.FnExactFillGap", spec := "fnExactFillGap", apart := false, narrowed := true }
def FnExactFillGapUptoSaid : Prop := fnExactFillGapUptoRow.holds Try.pinned (OpenSpec.upto fnExactFillGapSpec)

/-- 'laws.FnExactMajorityOf', WHERE WHAT IT READS IS OF BULK AT MOST 1048576: true; the input reads as it did. -/
def fnExactMajorityOfUptoRow : OpenClaim := { program := "ytennmnkjdchbhaa", sum := "2c93e096264a54c70fa5a3a66b9d92503324b43d4ae0afe8d5df07412b9e93d8", func := "loop.example/g01340/laws.FnExactMajorityOf", spec := "fnExactMajorityOf", apart := false, narrowed := true }
def FnExactMajorityOfUptoSaid : Prop := fnExactMajorityOfUptoRow.holds Try.pinned (OpenSpec.upto fnExactMajorityOfSpec)

/-- 'laws.FnExactMendPage', WHERE WHAT IT READS IS OF BULK AT MOST 1048576: true; the input reads as it did. -/
def fnExactMendPageUptoRow : OpenClaim := { program := "ytennmnkjdchbhaa", sum := "2c93e096264a54c70fa5a3a66b9d92503324b43d4ae0afe8d5df07412b9e93d8", func := "loop.example/g01340/laws.FnExactMendPage", spec := "fnExactMendPage", apart := false, narrowed := true }
def FnExactMendPageUptoSaid : Prop := fnExactMendPageUptoRow.holds Try.pinned (OpenSpec.upto fnExactMendPageSpec)

/-- 'laws.FnExactMixedOf', WHERE WHAT IT READS IS OF BULK AT MOST 1048576: true; the input reads as it did. -/
def fnExactMixedOfUptoRow : OpenClaim := { program := "ytennmnkjdchbhaa", sum := "2c93e096264a54c70fa5a3a66b9d92503324b43d4ae0afe8d5df07412b9e93d8", func := "loop.example/g01340/laws.FnExactMixedOf", spec := "fnExactMixedOf", unfollowed := true, recurses := true, apart := false, narrowed := true }
def FnExactMixedOfUptoSaid : Prop := fnExactMixedOfUptoRow.holds Try.pinned (OpenSpec.upto fnExactMixedOfSpec)

end Rows
end Go.Proofs.Ytennmnkjdchbhaa
