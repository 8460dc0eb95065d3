/-
  NARROWER THAN 'FOR EVERY INPUT', by the rows' own cells (each row's printed sentence says how): FnExactDotsOf: laid · FnExactTurnFrame: laid · FnExactBoxOf: laid · FnExactBlobAt: laid · FnExactBlobsOf: laid · FnExactGrowFrame: laid · FnExactShrinkFrame: laid · FnFrames: laid · FnBlobs: laid.
  DERIVED. THE GIVEN ROWS OF THIS SEAT. 9 by the template 'for every input the law returns true; each argument reads behind the call as it read before'; 0 by the template 'total and deterministic' (their statements: YthkpefdjhdemeaaDoorTotals.lean).
  GIVEN WITH THE SEED: the statements are not yours to turn. If you find one false, say at which input.
  Laid BY PROGRAM, IN A SANDBOX (cutbox-rows.mjs): the forced cells as the released guide's own fill.sh prints them over the translation b2b8515b9caa6860… (all of the seat's roots in one cut). By AI agents, Wed Nov 11 2026. No macro, syntax, notation, axiom, sorry.
-/
import Derived.Test.YthkpefdjhdemeaaDoorChecked
import GoSem.Claim
import GoSem.ClaimJoined
import GoSem.ClaimMapViews
import Derived.JoinedTies
import Derived.KernelRfl
namespace Go.Proofs.YthkpefdjhdemeaaDoor
/- THE CELL 'sum', in the pinned program and in every row, IS THE sha256 OF THE DUMP (.gsa) THAT YthkpefdjhdemeaaDoorProg.lean LOADS. Nothing in Lean hashes anything: it is a label: what it is worth is what the hold of that sum in a sandbox is worth. -/
noncomputable def Tryd.pinned : Pinned := { name := "ythkpefdjhdemeaadoor", sum := "b2b8515b9caa686077711779e20cdb10e8a66769f51d6bdd85f8bad952e72987", checked := Tryd.checked }
namespace Rows
def none {H : Type} : Left H := { results := [], args := [] }

/- WHAT THE LISTED PACKAGE-LEVEL VARIABLES READ AS WHEN THE CALL BEGINS. Each datum BY PROGRAM (the guide's laid-datum.mjs) off the statement by which the dump's own 'gosem.cut.vars' lays the variable. In a bare row this is a premise. The card (YthkpefdjhdemeaaDoorCards.lean) ties it to the program's text. -/
def laid_math_bits_deBruijn32tab {H : Type} : DataW H := .agg [.lit (.int .u8 0), .lit (.int .u8 1), .lit (.int .u8 28), .lit (.int .u8 2), .lit (.int .u8 29), .lit (.int .u8 14), .lit (.int .u8 24), .lit (.int .u8 3), .lit (.int .u8 30), .lit (.int .u8 22), .lit (.int .u8 20), .lit (.int .u8 15), .lit (.int .u8 25), .lit (.int .u8 17), .lit (.int .u8 4), .lit (.int .u8 8), .lit (.int .u8 31), .lit (.int .u8 27), .lit (.int .u8 13), .lit (.int .u8 23), .lit (.int .u8 21), .lit (.int .u8 19), .lit (.int .u8 16), .lit (.int .u8 7), .lit (.int .u8 26), .lit (.int .u8 12), .lit (.int .u8 18), .lit (.int .u8 6), .lit (.int .u8 11), .lit (.int .u8 5), .lit (.int .u8 10), .lit (.int .u8 9)]
def laid_loop_example_g01340_impl_beside {H : Type} : DataW H := .agg [.agg [.lit (.int .i64 0), .lit (.int .i64 (-1))], .agg [.lit (.int .i64 (-1)), .lit (.int .i64 0)], .agg [.lit (.int .i64 1), .lit (.int .i64 0)], .agg [.lit (.int .i64 0), .lit (.int .i64 1)]]

/-- 'laws.FnExactDotsOf': WHATEVER THE INPUT: true; the input reads as it did. -/
def fnExactDotsOfSpec : ChangeSpec := { name := "fnExactDotsOf", fn := fun _ => fun
  | [d] => { results := [.lit (.bool true)], args := [d] }
  | _ => none }
def fnExactDotsOfRow : OpenClaim := { program := "ythkpefdjhdemeaadoor", sum := "b2b8515b9caa686077711779e20cdb10e8a66769f51d6bdd85f8bad952e72987", func := "loop.example/g01340/laws.FnExactDotsOf", spec := "fnExactDotsOf", unfollowed := true, recurses := true, named := ["math/bits.deBruijn32tab"], plainKeys := false, apart := false, laid := [("math/bits.deBruijn32tab", laid_math_bits_deBruijn32tab)] }
def FnExactDotsOfSaid : Prop := fnExactDotsOfRow.holds Tryd.pinned (OpenSpec.ofChange fnExactDotsOfSpec)

/-- ITS FALSE NEIGHBOUR: 'it returns false'. Refute it at one input. -/
def fnExactDotsOfWrong : ChangeSpec := { name := "fnExactDotsOf", fn := fun _ => fun
  | [d] => { results := [.lit (.bool false)], args := [d] }
  | _ => none }
def FnExactDotsOfWrongFalsely : Prop := fnExactDotsOfRow.holds Tryd.pinned (OpenSpec.ofChange fnExactDotsOfWrong)

/-- 'laws.FnExactTurnFrame': WHATEVER THE INPUT: true; the input reads as it did. -/
def fnExactTurnFrameSpec : ChangeSpec := { name := "fnExactTurnFrame", vars := ["loop.example/g01340/impl.beside"], fn := fun _ => fun
  | [d, g1] => { results := [.lit (.bool true)], args := [d], vars := [g1] }
  | _ => none }
def fnExactTurnFrameRow : OpenClaim := { program := "ythkpefdjhdemeaadoor", sum := "b2b8515b9caa686077711779e20cdb10e8a66769f51d6bdd85f8bad952e72987", func := "loop.example/g01340/laws.FnExactTurnFrame", spec := "fnExactTurnFrame", unfollowed := true, recurses := true, named := ["math/bits.deBruijn32tab", "loop.example/g01340/impl.beside"], plainKeys := false, apart := false, laid := [("math/bits.deBruijn32tab", laid_math_bits_deBruijn32tab), ("loop.example/g01340/impl.beside", laid_loop_example_g01340_impl_beside)] }
def FnExactTurnFrameSaid : Prop := fnExactTurnFrameRow.holds Tryd.pinned (OpenSpec.ofChange fnExactTurnFrameSpec)

/-- ITS FALSE NEIGHBOUR: 'it returns false'. Refute it at one input. -/
def fnExactTurnFrameWrong : ChangeSpec := { name := "fnExactTurnFrame", vars := ["loop.example/g01340/impl.beside"], fn := fun _ => fun
  | [d, g1] => { results := [.lit (.bool false)], args := [d], vars := [g1] }
  | _ => none }
def FnExactTurnFrameWrongFalsely : Prop := fnExactTurnFrameRow.holds Tryd.pinned (OpenSpec.ofChange fnExactTurnFrameWrong)

/-- 'laws.FnExactBoxOf': WHATEVER THE INPUT: true; the input reads as it did. -/
def fnExactBoxOfSpec : ChangeSpec := { name := "fnExactBoxOf", fn := fun _ => fun
  | [d] => { results := [.lit (.bool true)], args := [d] }
  | _ => none }
def fnExactBoxOfRow : OpenClaim := { program := "ythkpefdjhdemeaadoor", sum := "b2b8515b9caa686077711779e20cdb10e8a66769f51d6bdd85f8bad952e72987", func := "loop.example/g01340/laws.FnExactBoxOf", spec := "fnExactBoxOf", named := ["math/bits.deBruijn32tab"], plainKeys := false, apart := false, laid := [("math/bits.deBruijn32tab", laid_math_bits_deBruijn32tab)] }
def FnExactBoxOfSaid : Prop := fnExactBoxOfRow.holds Tryd.pinned (OpenSpec.ofChange fnExactBoxOfSpec)

/-- ITS FALSE NEIGHBOUR: 'it returns false'. Refute it at one input. -/
def fnExactBoxOfWrong : ChangeSpec := { name := "fnExactBoxOf", fn := fun _ => fun
  | [d] => { results := [.lit (.bool false)], args := [d] }
  | _ => none }
def FnExactBoxOfWrongFalsely : Prop := fnExactBoxOfRow.holds Tryd.pinned (OpenSpec.ofChange fnExactBoxOfWrong)

/-- 'laws.FnExactBlobAt': WHATEVER THE INPUT: true; the input reads as it did. -/
def fnExactBlobAtSpec : ChangeSpec := { name := "fnExactBlobAt", vars := ["loop.example/g01340/impl.beside"], fn := fun _ => fun
  | [d1, d2, d3, g1] => { results := [.lit (.bool true)], args := [d1, d2, d3], vars := [g1] }
  | _ => none }
def fnExactBlobAtRow : OpenClaim := { program := "ythkpefdjhdemeaadoor", sum := "b2b8515b9caa686077711779e20cdb10e8a66769f51d6bdd85f8bad952e72987", func := "loop.example/g01340/laws.FnExactBlobAt", spec := "fnExactBlobAt", named := ["loop.example/g01340/impl.beside"], plainKeys := false, apart := false, laid := [("loop.example/g01340/impl.beside", laid_loop_example_g01340_impl_beside)] }
def FnExactBlobAtSaid : Prop := fnExactBlobAtRow.holds Tryd.pinned (OpenSpec.ofChange fnExactBlobAtSpec)

/-- ITS FALSE NEIGHBOUR: 'it returns false'. Refute it at one input. -/
def fnExactBlobAtWrong : ChangeSpec := { name := "fnExactBlobAt", vars := ["loop.example/g01340/impl.beside"], fn := fun _ => fun
  | [d1, d2, d3, g1] => { results := [.lit (.bool false)], args := [d1, d2, d3], vars := [g1] }
  | _ => none }
def FnExactBlobAtWrongFalsely : Prop := fnExactBlobAtRow.holds Tryd.pinned (OpenSpec.ofChange fnExactBlobAtWrong)

/-- 'laws.FnExactBlobsOf': WHATEVER THE INPUT: true; the input reads as it did. -/
def fnExactBlobsOfSpec : ChangeSpec := { name := "fnExactBlobsOf", vars := ["loop.example/g01340/impl.beside"], fn := fun _ => fun
  | [d, g1] => { results := [.lit (.bool true)], args := [d], vars := [g1] }
  | _ => none }
def fnExactBlobsOfRow : OpenClaim := { program := "ythkpefdjhdemeaadoor", sum := "b2b8515b9caa686077711779e20cdb10e8a66769f51d6bdd85f8bad952e72987", func := "loop.example/g01340/laws.FnExactBlobsOf", spec := "fnExactBlobsOf", unfollowed := true, recurses := true, named := ["math/bits.deBruijn32tab", "loop.example/g01340/impl.beside"], plainKeys := false, apart := false, laid := [("math/bits.deBruijn32tab", laid_math_bits_deBruijn32tab), ("loop.example/g01340/impl.beside", laid_loop_example_g01340_impl_beside)] }
def FnExactBlobsOfSaid : Prop := fnExactBlobsOfRow.holds Tryd.pinned (OpenSpec.ofChange fnExactBlobsOfSpec)

/-- ITS FALSE NEIGHBOUR: 'it returns false'. Refute it at one input. -/
def fnExactBlobsOfWrong : ChangeSpec := { name := "fnExactBlobsOf", vars := ["loop.example/g01340/impl.beside"], fn := fun _ => fun
  | [d, g1] => { results := [.lit (.bool false)], args := [d], vars := [g1] }
  | _ => none }
def FnExactBlobsOfWrongFalsely : Prop := fnExactBlobsOfRow.holds Tryd.pinned (OpenSpec.ofChange fnExactBlobsOfWrong)

/-- 'laws.FnExactGrowFrame': WHATEVER THE INPUT: true; the input reads as it did. -/
def fnExactGrowFrameSpec : ChangeSpec := { name := "fnExactGrowFrame", vars := ["loop.example/g01340/impl.beside"], fn := fun _ => fun
  | [d, g1] => { results := [.lit (.bool true)], args := [d], vars := [g1] }
  | _ => none }
def fnExactGrowFrameRow : OpenClaim := { program := "ythkpefdjhdemeaadoor", sum := "b2b8515b9caa686077711779e20cdb10e8a66769f51d6bdd85f8bad952e72987", func := "loop.example/g01340/laws.FnExactGrowFrame", spec := "fnExactGrowFrame", unfollowed := true, recurses := true, named := ["math/bits.deBruijn32tab", "loop.example/g01340/impl.beside"], plainKeys := false, apart := false, laid := [("math/bits.deBruijn32tab", laid_math_bits_deBruijn32tab), ("loop.example/g01340/impl.beside", laid_loop_example_g01340_impl_beside)] }
def FnExactGrowFrameSaid : Prop := fnExactGrowFrameRow.holds Tryd.pinned (OpenSpec.ofChange fnExactGrowFrameSpec)

/-- ITS FALSE NEIGHBOUR: 'it returns false'. Refute it at one input. -/
def fnExactGrowFrameWrong : ChangeSpec := { name := "fnExactGrowFrame", vars := ["loop.example/g01340/impl.beside"], fn := fun _ => fun
  | [d, g1] => { results := [.lit (.bool false)], args := [d], vars := [g1] }
  | _ => none }
def FnExactGrowFrameWrongFalsely : Prop := fnExactGrowFrameRow.holds Tryd.pinned (OpenSpec.ofChange fnExactGrowFrameWrong)

/-- 'laws.FnExactShrinkFrame': WHATEVER THE INPUT: true; the input reads as it did. -/
def fnExactShrinkFrameSpec : ChangeSpec := { name := "fnExactShrinkFrame", vars := ["loop.example/g01340/impl.beside"], fn := fun _ => fun
  | [d, g1] => { results := [.lit (.bool true)], args := [d], vars := [g1] }
  | _ => none }
def fnExactShrinkFrameRow : OpenClaim := { program := "ythkpefdjhdemeaadoor", sum := "b2b8515b9caa686077711779e20cdb10e8a66769f51d6bdd85f8bad952e72987", func := "loop.example/g01340/laws.FnExactShrinkFrame", spec := "fnExactShrinkFrame", unfollowed := true, recurses := true, named := ["math/bits.deBruijn32tab", "loop.example/g01340/impl.beside"], plainKeys := false, apart := false, laid := [("math/bits.deBruijn32tab", laid_math_bits_deBruijn32tab), ("loop.example/g01340/impl.beside", laid_loop_example_g01340_impl_beside)] }
def FnExactShrinkFrameSaid : Prop := fnExactShrinkFrameRow.holds Tryd.pinned (OpenSpec.ofChange fnExactShrinkFrameSpec)

/-- ITS FALSE NEIGHBOUR: 'it returns false'. Refute it at one input. -/
def fnExactShrinkFrameWrong : ChangeSpec := { name := "fnExactShrinkFrame", vars := ["loop.example/g01340/impl.beside"], fn := fun _ => fun
  | [d, g1] => { results := [.lit (.bool false)], args := [d], vars := [g1] }
  | _ => none }
def FnExactShrinkFrameWrongFalsely : Prop := fnExactShrinkFrameRow.holds Tryd.pinned (OpenSpec.ofChange fnExactShrinkFrameWrong)

/-- 'laws.FnFrames': WHATEVER THE INPUT: true; the input reads as it did. -/
def fnFramesSpec : ChangeSpec := { name := "fnFrames", vars := ["loop.example/g01340/impl.beside"], fn := fun _ => fun
  | [d1, d2, g1] => { results := [.lit (.bool true)], args := [d1, d2], vars := [g1] }
  | _ => none }
def fnFramesRow : OpenClaim := { program := "ythkpefdjhdemeaadoor", sum := "b2b8515b9caa686077711779e20cdb10e8a66769f51d6bdd85f8bad952e72987", func := "loop.example/g01340/laws.FnFrames", spec := "fnFrames", inPlace := ["internal/abi.NoEscape"], unfollowed := true, recurses := true, named := ["math/bits.deBruijn32tab", "loop.example/g01340/impl.beside"], plainKeys := false, apart := false, laid := [("math/bits.deBruijn32tab", laid_math_bits_deBruijn32tab), ("loop.example/g01340/impl.beside", laid_loop_example_g01340_impl_beside)] }
def FnFramesSaid : Prop := fnFramesRow.holds Tryd.pinned (OpenSpec.ofChange fnFramesSpec)

/-- ITS FALSE NEIGHBOUR: 'it returns false'. Refute it at one input. -/
def fnFramesWrong : ChangeSpec := { name := "fnFrames", vars := ["loop.example/g01340/impl.beside"], fn := fun _ => fun
  | [d1, d2, g1] => { results := [.lit (.bool false)], args := [d1, d2], vars := [g1] }
  | _ => none }
def FnFramesWrongFalsely : Prop := fnFramesRow.holds Tryd.pinned (OpenSpec.ofChange fnFramesWrong)

/-- 'laws.FnBlobs': WHATEVER THE INPUT: true; the input reads as it did. -/
def fnBlobsSpec : ChangeSpec := { name := "fnBlobs", vars := ["loop.example/g01340/impl.beside"], fn := fun _ => fun
  | [d1, d2, g1] => { results := [.lit (.bool true)], args := [d1, d2], vars := [g1] }
  | _ => none }
def fnBlobsRow : OpenClaim := { program := "ythkpefdjhdemeaadoor", sum := "b2b8515b9caa686077711779e20cdb10e8a66769f51d6bdd85f8bad952e72987", func := "loop.example/g01340/laws.FnBlobs", spec := "fnBlobs", unfollowed := true, recurses := true, named := ["math/bits.deBruijn32tab", "loop.example/g01340/impl.beside"], plainKeys := false, apart := false, laid := [("math/bits.deBruijn32tab", laid_math_bits_deBruijn32tab), ("loop.example/g01340/impl.beside", laid_loop_example_g01340_impl_beside)] }
def FnBlobsSaid : Prop := fnBlobsRow.holds Tryd.pinned (OpenSpec.ofChange fnBlobsSpec)

/-- ITS FALSE NEIGHBOUR: 'it returns false'. Refute it at one input. -/
def fnBlobsWrong : ChangeSpec := { name := "fnBlobs", vars := ["loop.example/g01340/impl.beside"], fn := fun _ => fun
  | [d1, d2, g1] => { results := [.lit (.bool false)], args := [d1, d2], vars := [g1] }
  | _ => none }
def FnBlobsWrongFalsely : Prop := fnBlobsRow.holds Tryd.pinned (OpenSpec.ofChange fnBlobsWrong)

/- THE SECOND FORM. 'bulk': how many values and letters a reading holds, each counted each time it is reached (what is shared counts as often as it is met; a slice's spare places count too). A statement '..UptoSaid' is the law's where the arguments, and the package variables that the reading takes, are together of bulk at most 1048576: NARROWER than '..Said'. Prove '..Said' where nothing that the law and all that it calls make is longer than what came in: it says more and counts as full. Else prove '..UptoSaid'. A law counts once. -/
mutual
def uptoBulk {H : Type} : DataW H → Nat
  | .lit (.string bytes) => bytes.length + 1
  | .lit _ => 1
  | .nil => 1
  | .ptr d => uptoBulk d + 1
  | .slice elems spare => uptoBulkAll elems + uptoBulkAll spare + 1
  | .agg parts => uptoBulkAll parts + 1
  | .iface _ d => uptoBulk d + 1
  | .map entries => uptoBulkEntries entries + 1
  | .held _ => 1
def uptoBulkAll {H : Type} : List (DataW H) → Nat
  | [] => 0
  | d :: r => uptoBulk d + uptoBulkAll r
def uptoBulkEntries {H : Type} : List (Lit × DataW H) → Nat
  | [] => 0
  | x :: r => uptoBulkEntry x + uptoBulkEntries r
def uptoBulkEntry {H : Type} : Lit × DataW H → Nat
  | (.string bytes, d) => bytes.length + uptoBulk d + 1
  | (_, d) => uptoBulk d + 1
 end
def uptoSmall : (H : Type) → List (DataW H) → Bool := fun _ ds => decide (uptoBulkAll ds ≤ 1048576)
def OpenSpec.upto (s : _root_.Go.ChangeSpec) : _root_.Go.OpenSpec := { _root_.Go.OpenSpec.ofChange s with cond := some uptoSmall }

/-- 'laws.FnExactDotsOf', WHERE WHAT IT READS IS OF BULK AT MOST 1048576: true; the input reads as it did. -/
def fnExactDotsOfUptoRow : OpenClaim := { program := "ythkpefdjhdemeaadoor", sum := "b2b8515b9caa686077711779e20cdb10e8a66769f51d6bdd85f8bad952e72987", func := "loop.example/g01340/laws.FnExactDotsOf", spec := "fnExactDotsOf", unfollowed := true, recurses := true, named := ["math/bits.deBruijn32tab"], plainKeys := false, apart := false, laid := [("math/bits.deBruijn32tab", laid_math_bits_deBruijn32tab)], narrowed := true }
def FnExactDotsOfUptoSaid : Prop := fnExactDotsOfUptoRow.holds Tryd.pinned (OpenSpec.upto fnExactDotsOfSpec)

/-- 'laws.FnExactTurnFrame', WHERE WHAT IT READS IS OF BULK AT MOST 1048576: true; the input reads as it did. -/
def fnExactTurnFrameUptoRow : OpenClaim := { program := "ythkpefdjhdemeaadoor", sum := "b2b8515b9caa686077711779e20cdb10e8a66769f51d6bdd85f8bad952e72987", func := "loop.example/g01340/laws.FnExactTurnFrame", spec := "fnExactTurnFrame", unfollowed := true, recurses := true, named := ["math/bits.deBruijn32tab", "loop.example/g01340/impl.beside"], plainKeys := false, apart := false, laid := [("math/bits.deBruijn32tab", laid_math_bits_deBruijn32tab), ("loop.example/g01340/impl.beside", laid_loop_example_g01340_impl_beside)], narrowed := true }
def FnExactTurnFrameUptoSaid : Prop := fnExactTurnFrameUptoRow.holds Tryd.pinned (OpenSpec.upto fnExactTurnFrameSpec)

/-- 'laws.FnExactBoxOf', WHERE WHAT IT READS IS OF BULK AT MOST 1048576: true; the input reads as it did. -/
def fnExactBoxOfUptoRow : OpenClaim := { program := "ythkpefdjhdemeaadoor", sum := "b2b8515b9caa686077711779e20cdb10e8a66769f51d6bdd85f8bad952e72987", func := "loop.example/g01340/laws.FnExactBoxOf", spec := "fnExactBoxOf", named := ["math/bits.deBruijn32tab"], plainKeys := false, apart := false, laid := [("math/bits.deBruijn32tab", laid_math_bits_deBruijn32tab)], narrowed := true }
def FnExactBoxOfUptoSaid : Prop := fnExactBoxOfUptoRow.holds Tryd.pinned (OpenSpec.upto fnExactBoxOfSpec)

/-- 'laws.FnExactBlobAt', WHERE WHAT IT READS IS OF BULK AT MOST 1048576: true; the input reads as it did. -/
def fnExactBlobAtUptoRow : OpenClaim := { program := "ythkpefdjhdemeaadoor", sum := "b2b8515b9caa686077711779e20cdb10e8a66769f51d6bdd85f8bad952e72987", func := "loop.example/g01340/laws.FnExactBlobAt", spec := "fnExactBlobAt", named := ["loop.example/g01340/impl.beside"], plainKeys := false, apart := false, laid := [("loop.example/g01340/impl.beside", laid_loop_example_g01340_impl_beside)], narrowed := true }
def FnExactBlobAtUptoSaid : Prop := fnExactBlobAtUptoRow.holds Tryd.pinned (OpenSpec.upto fnExactBlobAtSpec)

/-- 'laws.FnExactBlobsOf', WHERE WHAT IT READS IS OF BULK AT MOST 1048576: true; the input reads as it did. -/
def fnExactBlobsOfUptoRow : OpenClaim := { program := "ythkpefdjhdemeaadoor", sum := "b2b8515b9caa686077711779e20cdb10e8a66769f51d6bdd85f8bad952e72987", func := "loop.example/g01340/laws.FnExactBlobsOf", spec := "fnExactBlobsOf", unfollowed := true, recurses := true, named := ["math/bits.deBruijn32tab", "loop.example/g01340/impl.beside"], plainKeys := false, apart := false, laid := [("math/bits.deBruijn32tab", laid_math_bits_deBruijn32tab), ("loop.example/g01340/impl.beside", laid_loop_example_g01340_impl_beside)], narrowed := true }
def FnExactBlobsOfUptoSaid : Prop := fnExactBlobsOfUptoRow.holds Tryd.pinned (OpenSpec.upto fnExactBlobsOfSpec)

/-- 'laws.FnExactGrowFrame', WHERE WHAT IT READS IS OF BULK AT MOST 1048576: true; the input reads as it did. -/
def fnExactGrowFrameUptoRow : OpenClaim := { program := "ythkpefdjhdemeaadoor", sum := "b2b8515b9caa686077711779e20cdb10e8a66769f51d6bdd85f8bad952e72987", func := "loop.example/g01340/laws.FnExactGrowFrame", spec := "fnExactGrowFrame", unfollowed := true, recurses := true, named := ["math/bits.deBruijn32tab", "loop.example/g01340/impl.beside"], plainKeys := false, apart := false, laid := [("math/bits.deBruijn32tab", laid_math_bits_deBruijn32tab), ("loop.example/g01340/impl.beside", laid_loop_example_g01340_impl_beside)], narrowed := true }
def FnExactGrowFrameUptoSaid : Prop := fnExactGrowFrameUptoRow.holds Tryd.pinned (OpenSpec.upto fnExactGrowFrameSpec)

/-- 'laws.FnExactShrinkFrame', WHERE WHAT IT READS IS OF BULK AT MOST 1048576: true; the input reads as it did. -/
def fnExactShrinkFrameUptoRow : OpenClaim := { program := "ythkpefdjhdemeaadoor", sum := "b2b8515b9caa686077711779e20cdb10e8a66769f51d6bdd85f8bad952e72987", func := "loop.example/g01340/laws.FnExactShrinkFrame", spec := "fnExactShrinkFrame", unfollowed := true, recurses := true, named := ["math/bits.deBruijn32tab", "loop.example/g01340/impl.beside"], plainKeys := false, apart := false, laid := [("math/bits.deBruijn32tab", laid_math_bits_deBruijn32tab), ("loop.example/g01340/impl.beside", laid_loop_example_g01340_impl_beside)], narrowed := true }
def FnExactShrinkFrameUptoSaid : Prop := fnExactShrinkFrameUptoRow.holds Tryd.pinned (OpenSpec.upto fnExactShrinkFrameSpec)

/-- 'laws.FnFrames', WHERE WHAT IT READS IS OF BULK AT MOST 1048576: true; the input reads as it did. -/
def fnFramesUptoRow : OpenClaim := { program := "ythkpefdjhdemeaadoor", sum := "b2b8515b9caa686077711779e20cdb10e8a66769f51d6bdd85f8bad952e72987", func := "loop.example/g01340/laws.FnFrames", spec := "fnFrames", inPlace := ["internal/abi.NoEscape"], unfollowed := true, recurses := true, named := ["math/bits.deBruijn32tab", "loop.example/g01340/impl.beside"], plainKeys := false, apart := false, laid := [("math/bits.deBruijn32tab", laid_math_bits_deBruijn32tab), ("loop.example/g01340/impl.beside", laid_loop_example_g01340_impl_beside)], narrowed := true }
def FnFramesUptoSaid : Prop := fnFramesUptoRow.holds Tryd.pinned (OpenSpec.upto fnFramesSpec)

/-- 'laws.FnBlobs', WHERE WHAT IT READS IS OF BULK AT MOST 1048576: true; the input reads as it did. -/
def fnBlobsUptoRow : OpenClaim := { program := "ythkpefdjhdemeaadoor", sum := "b2b8515b9caa686077711779e20cdb10e8a66769f51d6bdd85f8bad952e72987", func := "loop.example/g01340/laws.FnBlobs", spec := "fnBlobs", unfollowed := true, recurses := true, named := ["math/bits.deBruijn32tab", "loop.example/g01340/impl.beside"], plainKeys := false, apart := false, laid := [("math/bits.deBruijn32tab", laid_math_bits_deBruijn32tab), ("loop.example/g01340/impl.beside", laid_loop_example_g01340_impl_beside)], narrowed := true }
def FnBlobsUptoSaid : Prop := fnBlobsUptoRow.holds Tryd.pinned (OpenSpec.upto fnBlobsSpec)

end Rows
end Go.Proofs.YthkpefdjhdemeaaDoor
