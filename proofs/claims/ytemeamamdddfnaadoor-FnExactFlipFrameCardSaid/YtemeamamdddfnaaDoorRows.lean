/-
  NARROWER THAN 'FOR EVERY INPUT', by the rows' own cells (each row's printed sentence says how): FnExactDotsOf: laid · FnExactTurnFrame: laid · FnExactMirrorFrame: laid · FnExactFlipFrame: laid.
  DERIVED. THE GIVEN ROWS OF THIS SEAT. 4 by the template 'for every input the law returns true; each argument reads behind the call as it read before'; 0 by the template 'total and deterministic' (their statements: YtemeamamdddfnaaDoorTotals.lean).
  GIVEN WITH THE SEED: the statements are not yours to turn. If you find one false, say at which input.
  Laid BY PROGRAM, IN A SANDBOX (cutbox-rows.mjs): the forced cells as the released guide's own fill.sh prints them over the translation eaae2c34d6b46593… (all of the seat's roots in one cut). By AI agents, Wed Nov 11 2026. No macro, syntax, notation, axiom, sorry.
-/
import Derived.Test.YtemeamamdddfnaaDoorChecked
import GoSem.Claim
import GoSem.ClaimJoined
import GoSem.ClaimMapViews
import Derived.JoinedTies
import Derived.KernelRfl
namespace Go.Proofs.YtemeamamdddfnaaDoor
/- THE CELL 'sum', in the pinned program and in every row, IS THE sha256 OF THE DUMP (.gsa) THAT YtemeamamdddfnaaDoorProg.lean LOADS. Nothing in Lean hashes anything: it is a label: what it is worth is what the hold of that sum in a sandbox is worth. -/
noncomputable def Tryd.pinned : Pinned := { name := "ytemeamamdddfnaadoor", sum := "eaae2c34d6b46593fa63cbf343dc4628ff5d25fd4b4c80c53ad3456e26be7a87", checked := Tryd.checked }
namespace Rows
def none {H : Type} : Left H := { results := [], args := [] }

/- WHAT THE LISTED PACKAGE-LEVEL VARIABLES READ AS WHEN THE CALL BEGINS. Each datum BY PROGRAM (the guide's laid-datum.mjs) off the statement by which the dump's own 'gosem.cut.vars' lays the variable. In a bare row this is a premise. The card (YtemeamamdddfnaaDoorCards.lean) ties it to the program's text. -/
def laid_math_bits_deBruijn32tab {H : Type} : DataW H := .agg [.lit (.int .u8 0), .lit (.int .u8 1), .lit (.int .u8 28), .lit (.int .u8 2), .lit (.int .u8 29), .lit (.int .u8 14), .lit (.int .u8 24), .lit (.int .u8 3), .lit (.int .u8 30), .lit (.int .u8 22), .lit (.int .u8 20), .lit (.int .u8 15), .lit (.int .u8 25), .lit (.int .u8 17), .lit (.int .u8 4), .lit (.int .u8 8), .lit (.int .u8 31), .lit (.int .u8 27), .lit (.int .u8 13), .lit (.int .u8 23), .lit (.int .u8 21), .lit (.int .u8 19), .lit (.int .u8 16), .lit (.int .u8 7), .lit (.int .u8 26), .lit (.int .u8 12), .lit (.int .u8 18), .lit (.int .u8 6), .lit (.int .u8 11), .lit (.int .u8 5), .lit (.int .u8 10), .lit (.int .u8 9)]
def laid_loop_example_g01340_impl_beside {H : Type} : DataW H := .agg [.agg [.lit (.int .i64 0), .lit (.int .i64 (-1))], .agg [.lit (.int .i64 (-1)), .lit (.int .i64 0)], .agg [.lit (.int .i64 1), .lit (.int .i64 0)], .agg [.lit (.int .i64 0), .lit (.int .i64 1)]]

/-- 'laws.FnExactDotsOf': WHATEVER THE INPUT: true; the input reads as it did. -/
def fnExactDotsOfSpec : ChangeSpec := { name := "fnExactDotsOf", fn := fun _ => fun
  | [d] => { results := [.lit (.bool true)], args := [d] }
  | _ => none }
def fnExactDotsOfRow : OpenClaim := { program := "ytemeamamdddfnaadoor", sum := "eaae2c34d6b46593fa63cbf343dc4628ff5d25fd4b4c80c53ad3456e26be7a87", func := "loop.example/g01340/laws.FnExactDotsOf", spec := "fnExactDotsOf", unfollowed := true, recurses := true, named := ["math/bits.deBruijn32tab"], apart := false, laid := [("math/bits.deBruijn32tab", laid_math_bits_deBruijn32tab)] }
def FnExactDotsOfSaid : Prop := fnExactDotsOfRow.holds Tryd.pinned (OpenSpec.ofChange fnExactDotsOfSpec)

/-- ITS FALSE NEIGHBOUR: 'it returns false'. Refute it at one input. -/
def fnExactDotsOfWrong : ChangeSpec := { name := "fnExactDotsOf", fn := fun _ => fun
  | [d] => { results := [.lit (.bool false)], args := [d] }
  | _ => none }
def FnExactDotsOfWrongFalsely : Prop := fnExactDotsOfRow.holds Tryd.pinned (OpenSpec.ofChange fnExactDotsOfWrong)

/-- 'laws.FnExactTurnFrame': WHATEVER THE INPUT: true; the input reads as it did. -/
def fnExactTurnFrameSpec : ChangeSpec := { name := "fnExactTurnFrame", vars := ["loop.example/g01340/impl.beside"], fn := fun _ => fun
  | [d, g1] => { results := [.lit (.bool true)], args := [d], vars := [g1] }
  | _ => none }
def fnExactTurnFrameRow : OpenClaim := { program := "ytemeamamdddfnaadoor", sum := "eaae2c34d6b46593fa63cbf343dc4628ff5d25fd4b4c80c53ad3456e26be7a87", func := "loop.example/g01340/laws.FnExactTurnFrame", spec := "fnExactTurnFrame", unfollowed := true, recurses := true, named := ["math/bits.deBruijn32tab", "loop.example/g01340/impl.beside"], apart := false, laid := [("math/bits.deBruijn32tab", laid_math_bits_deBruijn32tab), ("loop.example/g01340/impl.beside", laid_loop_example_g01340_impl_beside)] }
def FnExactTurnFrameSaid : Prop := fnExactTurnFrameRow.holds Tryd.pinned (OpenSpec.ofChange fnExactTurnFrameSpec)

/-- ITS FALSE NEIGHBOUR: 'it returns false'. Refute it at one input. -/
def fnExactTurnFrameWrong : ChangeSpec := { name := "fnExactTurnFrame", vars := ["loop.example/g01340/impl.beside"], fn := fun _ => fun
  | [d, g1] => { results := [.lit (.bool false)], args := [d], vars := [g1] }
  | _ => none }
def FnExactTurnFrameWrongFalsely : Prop := fnExactTurnFrameRow.holds Tryd.pinned (OpenSpec.ofChange fnExactTurnFrameWrong)

/-- 'laws.FnExactMirrorFrame': WHATEVER THE INPUT: true; the input reads as it did. -/
def fnExactMirrorFrameSpec : ChangeSpec := { name := "fnExactMirrorFrame", vars := ["loop.example/g01340/impl.beside"], fn := fun _ => fun
  | [d, g1] => { results := [.lit (.bool true)], args := [d], vars := [g1] }
  | _ => none }
def fnExactMirrorFrameRow : OpenClaim := { program := "ytemeamamdddfnaadoor", sum := "eaae2c34d6b46593fa63cbf343dc4628ff5d25fd4b4c80c53ad3456e26be7a87", func := "loop.example/g01340/laws.FnExactMirrorFrame", spec := "fnExactMirrorFrame", unfollowed := true, recurses := true, named := ["math/bits.deBruijn32tab", "loop.example/g01340/impl.beside"], apart := false, laid := [("math/bits.deBruijn32tab", laid_math_bits_deBruijn32tab), ("loop.example/g01340/impl.beside", laid_loop_example_g01340_impl_beside)] }
def FnExactMirrorFrameSaid : Prop := fnExactMirrorFrameRow.holds Tryd.pinned (OpenSpec.ofChange fnExactMirrorFrameSpec)

/-- ITS FALSE NEIGHBOUR: 'it returns false'. Refute it at one input. -/
def fnExactMirrorFrameWrong : ChangeSpec := { name := "fnExactMirrorFrame", vars := ["loop.example/g01340/impl.beside"], fn := fun _ => fun
  | [d, g1] => { results := [.lit (.bool false)], args := [d], vars := [g1] }
  | _ => none }
def FnExactMirrorFrameWrongFalsely : Prop := fnExactMirrorFrameRow.holds Tryd.pinned (OpenSpec.ofChange fnExactMirrorFrameWrong)

/-- 'laws.FnExactFlipFrame': WHATEVER THE INPUT: true; the input reads as it did. -/
def fnExactFlipFrameSpec : ChangeSpec := { name := "fnExactFlipFrame", vars := ["loop.example/g01340/impl.beside"], fn := fun _ => fun
  | [d, g1] => { results := [.lit (.bool true)], args := [d], vars := [g1] }
  | _ => none }
def fnExactFlipFrameRow : OpenClaim := { program := "ytemeamamdddfnaadoor", sum := "eaae2c34d6b46593fa63cbf343dc4628ff5d25fd4b4c80c53ad3456e26be7a87", func := "loop.example/g01340/laws.FnExactFlipFrame", spec := "fnExactFlipFrame", unfollowed := true, recurses := true, named := ["math/bits.deBruijn32tab", "loop.example/g01340/impl.beside"], apart := false, laid := [("math/bits.deBruijn32tab", laid_math_bits_deBruijn32tab), ("loop.example/g01340/impl.beside", laid_loop_example_g01340_impl_beside)] }
def FnExactFlipFrameSaid : Prop := fnExactFlipFrameRow.holds Tryd.pinned (OpenSpec.ofChange fnExactFlipFrameSpec)

/-- ITS FALSE NEIGHBOUR: 'it returns false'. Refute it at one input. -/
def fnExactFlipFrameWrong : ChangeSpec := { name := "fnExactFlipFrame", vars := ["loop.example/g01340/impl.beside"], fn := fun _ => fun
  | [d, g1] => { results := [.lit (.bool false)], args := [d], vars := [g1] }
  | _ => none }
def FnExactFlipFrameWrongFalsely : Prop := fnExactFlipFrameRow.holds Tryd.pinned (OpenSpec.ofChange fnExactFlipFrameWrong)

/- THE SECOND FORM. 'bulk': how many values and letters a reading holds, each counted each time it is reached (what is shared counts as often as it is met; a slice's spare places count too). A statement '..UptoSaid' is the law's where the arguments, and the package variables that the reading takes, are together of bulk at most 1048576: NARROWER than '..Said'. Prove '..Said' where nothing that the law and all that it calls make is longer than what came in: it says more and counts as full. Else prove '..UptoSaid'. A law counts once. -/
mutual
def uptoBulk {H : Type} : DataW H → Nat
  | .lit (.string bytes) => bytes.length + 1
  | .lit _ => 1
  | .nil => 1
  | .ptr d => uptoBulk d + 1
  | .slice elems spare => uptoBulkAll elems + uptoBulkAll spare + 1
  | .agg parts => uptoBulkAll parts + 1
  | .iface _ d => uptoBulk d + 1
  | .map entries => uptoBulkEntries entries + 1
  | .held _ => 1
def uptoBulkAll {H : Type} : List (DataW H) → Nat
  | [] => 0
  | d :: r => uptoBulk d + uptoBulkAll r
def uptoBulkEntries {H : Type} : List (Lit × DataW H) → Nat
  | [] => 0
  | x :: r => uptoBulkEntry x + uptoBulkEntries r
def uptoBulkEntry {H : Type} : Lit × DataW H → Nat
  | (.string bytes, d) => bytes.length + uptoBulk d + 1
  | (_, d) => uptoBulk d + 1
 end
def uptoSmall : (H : Type) → List (DataW H) → Bool := fun _ ds => decide (uptoBulkAll ds ≤ 1048576)
def OpenSpec.upto (s : _root_.Go.ChangeSpec) : _root_.Go.OpenSpec := { _root_.Go.OpenSpec.ofChange s with cond := some uptoSmall }

/-- 'laws.FnExactDotsOf', WHERE WHAT IT READS IS OF BULK AT MOST 1048576: true; the input reads as it did. -/
def fnExactDotsOfUptoRow : OpenClaim := { program := "ytemeamamdddfnaadoor", sum := "eaae2c34d6b46593fa63cbf343dc4628ff5d25fd4b4c80c53ad3456e26be7a87", func := "loop.example/g01340/laws.FnExactDotsOf", spec := "fnExactDotsOf", unfollowed := true, recurses := true, named := ["math/bits.deBruijn32tab"], apart := false, laid := [("math/bits.deBruijn32tab", laid_math_bits_deBruijn32tab)], narrowed := true }
def FnExactDotsOfUptoSaid : Prop := fnExactDotsOfUptoRow.holds Tryd.pinned (OpenSpec.upto fnExactDotsOfSpec)

/-- 'laws.FnExactTurnFrame', WHERE WHAT IT READS IS OF BULK AT MOST 1048576: true; the input reads as it did. -/
def fnExactTurnFrameUptoRow : OpenClaim := { program := "ytemeamamdddfnaadoor", sum := "eaae2c34d6b46593fa63cbf343dc4628ff5d25fd4b4c80c53ad3456e26be7a87", func := "loop.example/g01340/laws.FnExactTurnFrame", spec := "fnExactTurnFrame", unfollowed := true, recurses := true, named := ["math/bits.deBruijn32tab", "loop.example/g01340/impl.beside"], apart := false, laid := [("math/bits.deBruijn32tab", laid_math_bits_deBruijn32tab), ("loop.example/g01340/impl.beside", laid_loop_example_g01340_impl_beside)], narrowed := true }
def FnExactTurnFrameUptoSaid : Prop := fnExactTurnFrameUptoRow.holds Tryd.pinned (OpenSpec.upto fnExactTurnFrameSpec)

/-- 'laws.FnExactMirrorFrame', WHERE WHAT IT READS IS OF BULK AT MOST 1048576: true; the input reads as it did. -/
def fnExactMirrorFrameUptoRow : OpenClaim := { program := "ytemeamamdddfnaadoor", sum := "eaae2c34d6b46593fa63cbf343dc4628ff5d25fd4b4c80c53ad3456e26be7a87", func := "loop.example/g01340/laws.FnExactMirrorFrame", spec := "fnExactMirrorFrame", unfollowed := true, recurses := true, named := ["math/bits.deBruijn32tab", "loop.example/g01340/impl.beside"], apart := false, laid := [("math/bits.deBruijn32tab", laid_math_bits_deBruijn32tab), ("loop.example/g01340/impl.beside", laid_loop_example_g01340_impl_beside)], narrowed := true }
def FnExactMirrorFrameUptoSaid : Prop := fnExactMirrorFrameUptoRow.holds Tryd.pinned (OpenSpec.upto fnExactMirrorFrameSpec)

/-- 'laws.FnExactFlipFrame', WHERE WHAT IT READS IS OF BULK AT MOST 1048576: true; the input reads as it did. -/
def fnExactFlipFrameUptoRow : OpenClaim := { program := "ytemeamamdddfnaadoor", sum := "eaae2c34d6b46593fa63cbf343dc4628ff5d25fd4b4c80c53ad3456e26be7a87", func := "loop.example/g01340/laws.FnExactFlipFrame", spec := "fnExactFlipFrame", unfollowed := true, recurses := true, named := ["math/bits.deBruijn32tab", "loop.example/g01340/impl.beside"], apart := false, laid := [("math/bits.deBruijn32tab", laid_math_bits_deBruijn32tab), ("loop.example/g01340/impl.beside", laid_loop_example_g01340_impl_beside)], narrowed := true }
def FnExactFlipFrameUptoSaid : Prop := fnExactFlipFrameUptoRow.holds Tryd.pinned (OpenSpec.upto fnExactFlipFrameSpec)

end Rows
end Go.Proofs.YtemeamamdddfnaaDoor
