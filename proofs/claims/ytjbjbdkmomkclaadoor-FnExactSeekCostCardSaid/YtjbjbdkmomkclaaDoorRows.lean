/-
  NARROWER THAN 'FOR EVERY INPUT', by the rows' own cells (each row's printed sentence says how): FnExactCostOf: laid · FnExactStepsCost: laid · FnExactStrokesOf: laid · FnExactFewestStrokes: laid · FnExactSeekCost: laid.
  DERIVED. THE GIVEN ROWS OF THIS SEAT. 5 by the template 'for every input the law returns true; each argument reads behind the call as it read before'; 0 by the template 'total and deterministic' (their statements: YtjbjbdkmomkclaaDoorTotals.lean).
  GIVEN WITH THE SEED: the statements are not yours to turn. If you find one false, say at which input.
  Laid BY PROGRAM, IN A SANDBOX (cutbox-rows.mjs): the forced cells as the released guide's own fill.sh prints them over the translation 0adc961d6b012583… (all of the seat's roots in one cut). By AI agents, Wed Nov 11 2026. No macro, syntax, notation, axiom, sorry.
-/
import Derived.Test.YtjbjbdkmomkclaaDoorChecked
import GoSem.Claim
import GoSem.ClaimJoined
import GoSem.ClaimMapViews
import Derived.JoinedTies
import Derived.KernelRfl
namespace Go.Proofs.YtjbjbdkmomkclaaDoor
/- THE CELL 'sum', in the pinned program and in every row, IS THE sha256 OF THE DUMP (.gsa) THAT YtjbjbdkmomkclaaDoorProg.lean LOADS. Nothing in Lean hashes anything: it is a label: what it is worth is what the hold of that sum in a sandbox is worth. -/
noncomputable def Tryd.pinned : Pinned := { name := "ytjbjbdkmomkclaadoor", sum := "0adc961d6b012583a3343aed4fd39084bd1d98fa53bbaf20d7898354fdac3c09", checked := Tryd.checked }
namespace Rows
def none {H : Type} : Left H := { results := [], args := [] }

/- WHAT THE LISTED PACKAGE-LEVEL VARIABLES READ AS WHEN THE CALL BEGINS. Each datum BY PROGRAM (the guide's laid-datum.mjs) off the statement by which the dump's own 'gosem.cut.vars' lays the variable. In a bare row this is a premise. The card (YtjbjbdkmomkclaaDoorCards.lean) ties it to the program's text. -/
def laid_loop_example_g01340_impl_kinds {H : Type} : DataW H := .agg [.agg [.lit (.string [119, 104, 111, 108, 101]), .lit (.int .i64 0), .lit (.int .i64 1)], .agg [.lit (.string [99, 111, 112, 121]), .lit (.int .i64 1), .lit (.int .i64 2)], .agg [.lit (.string [109, 111, 118, 101]), .lit (.int .i64 3), .lit (.int .i64 4)]]
def laid_math_bits_deBruijn32tab {H : Type} : DataW H := .agg [.lit (.int .u8 0), .lit (.int .u8 1), .lit (.int .u8 28), .lit (.int .u8 2), .lit (.int .u8 29), .lit (.int .u8 14), .lit (.int .u8 24), .lit (.int .u8 3), .lit (.int .u8 30), .lit (.int .u8 22), .lit (.int .u8 20), .lit (.int .u8 15), .lit (.int .u8 25), .lit (.int .u8 17), .lit (.int .u8 4), .lit (.int .u8 8), .lit (.int .u8 31), .lit (.int .u8 27), .lit (.int .u8 13), .lit (.int .u8 23), .lit (.int .u8 21), .lit (.int .u8 19), .lit (.int .u8 16), .lit (.int .u8 7), .lit (.int .u8 26), .lit (.int .u8 12), .lit (.int .u8 18), .lit (.int .u8 6), .lit (.int .u8 11), .lit (.int .u8 5), .lit (.int .u8 10), .lit (.int .u8 9)]

/-- 'laws.FnExactCostOf': WHATEVER THE INPUT: true; the input reads as it did. -/
def fnExactCostOfSpec : ChangeSpec := { name := "fnExactCostOf", vars := ["loop.example/g01340/impl.kinds"], fn := fun _ => fun
  | [d, g1] => { results := [.lit (.bool true)], args := [d], vars := [g1] }
  | _ => none }
def fnExactCostOfRow : OpenClaim := { program := "ytjbjbdkmomkclaadoor", sum := "0adc961d6b012583a3343aed4fd39084bd1d98fa53bbaf20d7898354fdac3c09", func := "loop.example/g01340/laws.FnExactCostOf", spec := "fnExactCostOf", named := ["loop.example/g01340/impl.kinds"], apart := false, laid := [("loop.example/g01340/impl.kinds", laid_loop_example_g01340_impl_kinds)] }
def FnExactCostOfSaid : Prop := fnExactCostOfRow.holds Tryd.pinned (OpenSpec.ofChange fnExactCostOfSpec)

/-- ITS FALSE NEIGHBOUR: 'it returns false'. Refute it at one input. -/
def fnExactCostOfWrong : ChangeSpec := { name := "fnExactCostOf", vars := ["loop.example/g01340/impl.kinds"], fn := fun _ => fun
  | [d, g1] => { results := [.lit (.bool false)], args := [d], vars := [g1] }
  | _ => none }
def FnExactCostOfWrongFalsely : Prop := fnExactCostOfRow.holds Tryd.pinned (OpenSpec.ofChange fnExactCostOfWrong)

/-- 'laws.FnExactStepsCost': WHATEVER THE INPUT: true; the input reads as it did. -/
def fnExactStepsCostSpec : ChangeSpec := { name := "fnExactStepsCost", vars := ["loop.example/g01340/impl.kinds"], fn := fun _ => fun
  | [d, g1] => { results := [.lit (.bool true)], args := [d], vars := [g1] }
  | _ => none }
def fnExactStepsCostRow : OpenClaim := { program := "ytjbjbdkmomkclaadoor", sum := "0adc961d6b012583a3343aed4fd39084bd1d98fa53bbaf20d7898354fdac3c09", func := "loop.example/g01340/laws.FnExactStepsCost", spec := "fnExactStepsCost", named := ["loop.example/g01340/impl.kinds"], apart := false, laid := [("loop.example/g01340/impl.kinds", laid_loop_example_g01340_impl_kinds)] }
def FnExactStepsCostSaid : Prop := fnExactStepsCostRow.holds Tryd.pinned (OpenSpec.ofChange fnExactStepsCostSpec)

/-- ITS FALSE NEIGHBOUR: 'it returns false'. Refute it at one input. -/
def fnExactStepsCostWrong : ChangeSpec := { name := "fnExactStepsCost", vars := ["loop.example/g01340/impl.kinds"], fn := fun _ => fun
  | [d, g1] => { results := [.lit (.bool false)], args := [d], vars := [g1] }
  | _ => none }
def FnExactStepsCostWrongFalsely : Prop := fnExactStepsCostRow.holds Tryd.pinned (OpenSpec.ofChange fnExactStepsCostWrong)

/-- 'laws.FnExactStrokesOf': WHATEVER THE INPUT: true; the input reads as it did. -/
def fnExactStrokesOfSpec : ChangeSpec := { name := "fnExactStrokesOf", fn := fun _ => fun
  | [d1, d2] => { results := [.lit (.bool true)], args := [d1, d2] }
  | _ => none }
def fnExactStrokesOfRow : OpenClaim := { program := "ytjbjbdkmomkclaadoor", sum := "0adc961d6b012583a3343aed4fd39084bd1d98fa53bbaf20d7898354fdac3c09", func := "loop.example/g01340/laws.FnExactStrokesOf", spec := "fnExactStrokesOf", unfollowed := true, recurses := true, named := ["math/bits.deBruijn32tab"], apart := false, laid := [("math/bits.deBruijn32tab", laid_math_bits_deBruijn32tab)] }
def FnExactStrokesOfSaid : Prop := fnExactStrokesOfRow.holds Tryd.pinned (OpenSpec.ofChange fnExactStrokesOfSpec)

/-- ITS FALSE NEIGHBOUR: 'it returns false'. Refute it at one input. -/
def fnExactStrokesOfWrong : ChangeSpec := { name := "fnExactStrokesOf", fn := fun _ => fun
  | [d1, d2] => { results := [.lit (.bool false)], args := [d1, d2] }
  | _ => none }
def FnExactStrokesOfWrongFalsely : Prop := fnExactStrokesOfRow.holds Tryd.pinned (OpenSpec.ofChange fnExactStrokesOfWrong)

/-- 'laws.FnExactFewestStrokes': WHATEVER THE INPUT: true; the input reads as it did. -/
def fnExactFewestStrokesSpec : ChangeSpec := { name := "fnExactFewestStrokes", fn := fun _ => fun
  | [d] => { results := [.lit (.bool true)], args := [d] }
  | _ => none }
def fnExactFewestStrokesRow : OpenClaim := { program := "ytjbjbdkmomkclaadoor", sum := "0adc961d6b012583a3343aed4fd39084bd1d98fa53bbaf20d7898354fdac3c09", func := "loop.example/g01340/laws.FnExactFewestStrokes", spec := "fnExactFewestStrokes", unfollowed := true, recurses := true, named := ["math/bits.deBruijn32tab"], apart := false, laid := [("math/bits.deBruijn32tab", laid_math_bits_deBruijn32tab)] }
def FnExactFewestStrokesSaid : Prop := fnExactFewestStrokesRow.holds Tryd.pinned (OpenSpec.ofChange fnExactFewestStrokesSpec)

/-- ITS FALSE NEIGHBOUR: 'it returns false'. Refute it at one input. -/
def fnExactFewestStrokesWrong : ChangeSpec := { name := "fnExactFewestStrokes", fn := fun _ => fun
  | [d] => { results := [.lit (.bool false)], args := [d] }
  | _ => none }
def FnExactFewestStrokesWrongFalsely : Prop := fnExactFewestStrokesRow.holds Tryd.pinned (OpenSpec.ofChange fnExactFewestStrokesWrong)

/-- 'laws.FnExactSeekCost': WHATEVER THE INPUT: true; the input reads as it did. -/
def fnExactSeekCostSpec : ChangeSpec := { name := "fnExactSeekCost", vars := ["loop.example/g01340/impl.kinds"], fn := fun _ => fun
  | [d1, d2, g1] => { results := [.lit (.bool true)], args := [d1, d2], vars := [g1] }
  | _ => none }
def fnExactSeekCostRow : OpenClaim := { program := "ytjbjbdkmomkclaadoor", sum := "0adc961d6b012583a3343aed4fd39084bd1d98fa53bbaf20d7898354fdac3c09", func := "loop.example/g01340/laws.FnExactSeekCost", spec := "fnExactSeekCost", named := ["loop.example/g01340/impl.kinds"], apart := false, laid := [("loop.example/g01340/impl.kinds", laid_loop_example_g01340_impl_kinds)] }
def FnExactSeekCostSaid : Prop := fnExactSeekCostRow.holds Tryd.pinned (OpenSpec.ofChange fnExactSeekCostSpec)

/-- ITS FALSE NEIGHBOUR: 'it returns false'. Refute it at one input. -/
def fnExactSeekCostWrong : ChangeSpec := { name := "fnExactSeekCost", vars := ["loop.example/g01340/impl.kinds"], fn := fun _ => fun
  | [d1, d2, g1] => { results := [.lit (.bool false)], args := [d1, d2], vars := [g1] }
  | _ => none }
def FnExactSeekCostWrongFalsely : Prop := fnExactSeekCostRow.holds Tryd.pinned (OpenSpec.ofChange fnExactSeekCostWrong)

/- THE SECOND FORM. 'bulk': how many values and letters a reading holds, each counted each time it is reached (what is shared counts as often as it is met; a slice's spare places count too). A statement '..UptoSaid' is the law's where the arguments, and the package variables that the reading takes, are together of bulk at most 1048576: NARROWER than '..Said'. Prove '..Said' where nothing that the law and all that it calls make is longer than what came in: it says more and counts as full. Else prove '..UptoSaid'. A law counts once. -/
mutual
def uptoBulk {H : Type} : DataW H → Nat
  | .lit (.string bytes) => bytes.length + 1
  | .lit _ => 1
  | .nil => 1
  | .ptr d => uptoBulk d + 1
  | .slice elems spare => uptoBulkAll elems + uptoBulkAll spare + 1
  | .agg parts => uptoBulkAll parts + 1
  | .iface _ d => uptoBulk d + 1
  | .map entries => uptoBulkEntries entries + 1
  | .held _ => 1
def uptoBulkAll {H : Type} : List (DataW H) → Nat
  | [] => 0
  | d :: r => uptoBulk d + uptoBulkAll r
def uptoBulkEntries {H : Type} : List (Lit × DataW H) → Nat
  | [] => 0
  | x :: r => uptoBulkEntry x + uptoBulkEntries r
def uptoBulkEntry {H : Type} : Lit × DataW H → Nat
  | (.string bytes, d) => bytes.length + uptoBulk d + 1
  | (_, d) => uptoBulk d + 1
 end
def uptoSmall : (H : Type) → List (DataW H) → Bool := fun _ ds => decide (uptoBulkAll ds ≤ 1048576)
def OpenSpec.upto (s : _root_.Go.ChangeSpec) : _root_.Go.OpenSpec := { _root_.Go.OpenSpec.ofChange s with cond := some uptoSmall }

/-- 'laws.FnExactCostOf', WHERE WHAT IT READS IS OF BULK AT MOST 1048576: true; the input reads as it did. -/
def fnExactCostOfUptoRow : OpenClaim := { program := "ytjbjbdkmomkclaadoor", sum := "0adc961d6b012583a3343aed4fd39084bd1d98fa53bbaf20d7898354fdac3c09", func := "loop.example/g01340/laws.FnExactCostOf", spec := "fnExactCostOf", named := ["loop.example/g01340/impl.kinds"], apart := false, laid := [("loop.example/g01340/impl.kinds", laid_loop_example_g01340_impl_kinds)], narrowed := true }
def FnExactCostOfUptoSaid : Prop := fnExactCostOfUptoRow.holds Tryd.pinned (OpenSpec.upto fnExactCostOfSpec)

/-- 'laws.FnExactStepsCost', WHERE WHAT IT READS IS OF BULK AT MOST 1048576: true; the input reads as it did. -/
def fnExactStepsCostUptoRow : OpenClaim := { program := "ytjbjbdkmomkclaadoor", sum := "0adc961d6b012583a3343aed4fd39084bd1d98fa53bbaf20d7898354fdac3c09", func := "loop.example/g01340/laws.FnExactStepsCost", spec := "fnExactStepsCost", named := ["loop.example/g01340/impl.kinds"], apart := false, laid := [("loop.example/g01340/impl.kinds", laid_loop_example_g01340_impl_kinds)], narrowed := true }
def FnExactStepsCostUptoSaid : Prop := fnExactStepsCostUptoRow.holds Tryd.pinned (OpenSpec.upto fnExactStepsCostSpec)

/-- 'laws.FnExactStrokesOf', WHERE WHAT IT READS IS OF BULK AT MOST 1048576: true; the input reads as it did. -/
def fnExactStrokesOfUptoRow : OpenClaim := { program := "ytjbjbdkmomkclaadoor", sum := "0adc961d6b012583a3343aed4fd39084bd1d98fa53bbaf20d7898354fdac3c09", func := "loop.example/g01340/laws.FnExactStrokesOf", spec := "fnExactStrokesOf", unfollowed := true, recurses := true, named := ["math/bits.deBruijn32tab"], apart := false, laid := [("math/bits.deBruijn32tab", laid_math_bits_deBruijn32tab)], narrowed := true }
def FnExactStrokesOfUptoSaid : Prop := fnExactStrokesOfUptoRow.holds Tryd.pinned (OpenSpec.upto fnExactStrokesOfSpec)

/-- 'laws.FnExactFewestStrokes', WHERE WHAT IT READS IS OF BULK AT MOST 1048576: true; the input reads as it did. -/
def fnExactFewestStrokesUptoRow : OpenClaim := { program := "ytjbjbdkmomkclaadoor", sum := "0adc961d6b012583a3343aed4fd39084bd1d98fa53bbaf20d7898354fdac3c09", func := "loop.example/g01340/laws.FnExactFewestStrokes", spec := "fnExactFewestStrokes", unfollowed := true, recurses := true, named := ["math/bits.deBruijn32tab"], apart := false, laid := [("math/bits.deBruijn32tab", laid_math_bits_deBruijn32tab)], narrowed := true }
def FnExactFewestStrokesUptoSaid : Prop := fnExactFewestStrokesUptoRow.holds Tryd.pinned (OpenSpec.upto fnExactFewestStrokesSpec)

/-- 'laws.FnExactSeekCost', WHERE WHAT IT READS IS OF BULK AT MOST 1048576: true; the input reads as it did. -/
def fnExactSeekCostUptoRow : OpenClaim := { program := "ytjbjbdkmomkclaadoor", sum := "0adc961d6b012583a3343aed4fd39084bd1d98fa53bbaf20d7898354fdac3c09", func := "loop.example/g01340/laws.FnExactSeekCost", spec := "fnExactSeekCost", named := ["loop.example/g01340/impl.kinds"], apart := false, laid := [("loop.example/g01340/impl.kinds", laid_loop_example_g01340_impl_kinds)], narrowed := true }
def FnExactSeekCostUptoSaid : Prop := fnExactSeekCostUptoRow.holds Tryd.pinned (OpenSpec.upto fnExactSeekCostSpec)

end Rows
end Go.Proofs.YtjbjbdkmomkclaaDoor
