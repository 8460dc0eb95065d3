/-
  NARROWER THAN 'FOR EVERY INPUT', by the rows' own cells (each row's printed sentence says how): FnExactFrameAt: ifaces, laid · FnExactThinTrack: ifaces, laid · FnExactTrackText: laid · FnExactReadTrack: ifaces, laid · FnMorphs: ifaces, laid.
  DERIVED. THE GIVEN ROWS OF THIS SEAT. 5 by the template 'for every input the law returns true; each argument reads behind the call as it read before'; 0 by the template 'total and deterministic' (their statements: YtajlkleoincoeacDoorTotals.lean).
  GIVEN WITH THE SEED: the statements are not yours to turn. If you find one false, say at which input.
  Laid BY PROGRAM, IN A SANDBOX (cutbox-rows.mjs): the forced cells as the released guide's own fill.sh prints them over the translation 139521dd0598141b… (all of the seat's roots in one cut). By AI agents, Wed Nov 11 2026. No macro, syntax, notation, axiom, sorry.
-/
import Derived.Test.YtajlkleoincoeacDoorChecked
import GoSem.PinnedTables
import GoSem.Claim
import GoSem.ClaimJoined
import GoSem.ClaimMapViews
import Derived.JoinedTies
import Derived.KernelRfl
namespace Go.Proofs.YtajlkleoincoeacDoor
/- THE CELL 'sum', in the pinned program and in every row, IS THE sha256 OF THE DUMP (.gsa) THAT YtajlkleoincoeacDoorProg.lean LOADS. Nothing in Lean hashes anything: it is a label: what it is worth is what the hold of that sum in a sandbox is worth. -/
noncomputable def Tryd.pinned : Pinned := { name := "ytajlkleoincoeacdoor", sum := "139521dd0598141b71bbd9ca87da0c2fe9ad832c4c447a1e60387655a0c173f5", checked := Tryd.checked }
namespace Rows
def none {H : Type} : Left H := { results := [], args := [] }

/- WHAT THE LISTED PACKAGE-LEVEL VARIABLES READ AS WHEN THE CALL BEGINS. Each datum BY PROGRAM (the guide's laid-datum.mjs) off the statement by which the dump's own 'gosem.cut.vars' lays the variable. In a bare row this is a premise. The card (YtajlkleoincoeacDoorCards.lean) ties it to the program's text. -/
def laid_loop_example_g01340_impl_errInvalid {H : Type} : DataW H := .iface "*errors.errorString" (.ptr (.agg [.lit (.string [97, 32, 116, 114, 97, 99, 107, 44, 32, 97, 32, 112, 97, 114, 116, 32, 111, 114, 32, 97, 32, 102, 114, 97, 109, 101, 32, 105, 115, 32, 110, 111, 116, 32, 118, 97, 108, 105, 100])]))
def laid_loop_example_g01340_impl_errRange {H : Type} : DataW H := .iface "*errors.errorString" (.ptr (.agg [.lit (.string [97, 32, 110, 117, 109, 98, 101, 114, 32, 105, 115, 32, 111, 117, 116, 32, 111, 102, 32, 114, 97, 110, 103, 101])]))
def laid_loop_example_g01340_impl_errLimit {H : Type} : DataW H := .iface "*errors.errorString" (.ptr (.agg [.lit (.string [116, 104, 101, 32, 114, 101, 115, 117, 108, 116, 32, 119, 111, 117, 108, 100, 32, 98, 101, 32, 116, 111, 111, 32, 108, 97, 114, 103, 101])]))
def laid_loop_example_g01340_impl_errState {H : Type} : DataW H := .iface "*errors.errorString" (.ptr (.agg [.lit (.string [116, 104, 101, 32, 116, 114, 97, 99, 107, 115, 32, 100, 111, 32, 110, 111, 116, 32, 109, 101, 101, 116])]))
def laid_loop_example_g01340_impl_errSyntax {H : Type} : DataW H := .iface "*errors.errorString" (.ptr (.agg [.lit (.string [116, 104, 101, 32, 116, 101, 120, 116, 32, 105, 115, 32, 116, 104, 97, 116, 32, 111, 102, 32, 110, 111, 32, 116, 114, 97, 99, 107])]))
def laid_math_bits_deBruijn32tab {H : Type} : DataW H := .agg [.lit (.int .u8 0), .lit (.int .u8 1), .lit (.int .u8 28), .lit (.int .u8 2), .lit (.int .u8 29), .lit (.int .u8 14), .lit (.int .u8 24), .lit (.int .u8 3), .lit (.int .u8 30), .lit (.int .u8 22), .lit (.int .u8 20), .lit (.int .u8 15), .lit (.int .u8 25), .lit (.int .u8 17), .lit (.int .u8 4), .lit (.int .u8 8), .lit (.int .u8 31), .lit (.int .u8 27), .lit (.int .u8 13), .lit (.int .u8 23), .lit (.int .u8 21), .lit (.int .u8 19), .lit (.int .u8 16), .lit (.int .u8 7), .lit (.int .u8 26), .lit (.int .u8 12), .lit (.int .u8 18), .lit (.int .u8 6), .lit (.int .u8 11), .lit (.int .u8 5), .lit (.int .u8 10), .lit (.int .u8 9)]
def laid_math_bits_deBruijn64tab {H : Type} : DataW H := .agg [.lit (.int .u8 0), .lit (.int .u8 1), .lit (.int .u8 56), .lit (.int .u8 2), .lit (.int .u8 57), .lit (.int .u8 49), .lit (.int .u8 28), .lit (.int .u8 3), .lit (.int .u8 61), .lit (.int .u8 58), .lit (.int .u8 42), .lit (.int .u8 50), .lit (.int .u8 38), .lit (.int .u8 29), .lit (.int .u8 17), .lit (.int .u8 4), .lit (.int .u8 62), .lit (.int .u8 47), .lit (.int .u8 59), .lit (.int .u8 36), .lit (.int .u8 45), .lit (.int .u8 43), .lit (.int .u8 51), .lit (.int .u8 22), .lit (.int .u8 53), .lit (.int .u8 39), .lit (.int .u8 33), .lit (.int .u8 30), .lit (.int .u8 24), .lit (.int .u8 18), .lit (.int .u8 12), .lit (.int .u8 5), .lit (.int .u8 63), .lit (.int .u8 55), .lit (.int .u8 48), .lit (.int .u8 27), .lit (.int .u8 60), .lit (.int .u8 41), .lit (.int .u8 37), .lit (.int .u8 16), .lit (.int .u8 46), .lit (.int .u8 35), .lit (.int .u8 44), .lit (.int .u8 21), .lit (.int .u8 52), .lit (.int .u8 32), .lit (.int .u8 23), .lit (.int .u8 11), .lit (.int .u8 54), .lit (.int .u8 26), .lit (.int .u8 40), .lit (.int .u8 15), .lit (.int .u8 34), .lit (.int .u8 20), .lit (.int .u8 31), .lit (.int .u8 10), .lit (.int .u8 25), .lit (.int .u8 14), .lit (.int .u8 19), .lit (.int .u8 9), .lit (.int .u8 13), .lit (.int .u8 8), .lit (.int .u8 7), .lit (.int .u8 6)]
def laid_internal_strconv_uint64pow10 {H : Type} : DataW H := .agg [.lit (.int .u64 1), .lit (.int .u64 10), .lit (.int .u64 100), .lit (.int .u64 1000), .lit (.int .u64 10000), .lit (.int .u64 100000), .lit (.int .u64 1000000), .lit (.int .u64 10000000), .lit (.int .u64 100000000), .lit (.int .u64 1000000000), .lit (.int .u64 10000000000), .lit (.int .u64 100000000000), .lit (.int .u64 1000000000000), .lit (.int .u64 10000000000000), .lit (.int .u64 100000000000000), .lit (.int .u64 1000000000000000), .lit (.int .u64 10000000000000000), .lit (.int .u64 100000000000000000), .lit (.int .u64 1000000000000000000), .lit (.int .u64 10000000000000000000)]
def laid_unicode_utf8_acceptRanges {H : Type} : DataW H := .agg [.agg [.lit (.int .u8 128), .lit (.int .u8 191)], .agg [.lit (.int .u8 160), .lit (.int .u8 191)], .agg [.lit (.int .u8 128), .lit (.int .u8 159)], .agg [.lit (.int .u8 144), .lit (.int .u8 191)], .agg [.lit (.int .u8 128), .lit (.int .u8 143)], .agg [.lit (.int .u8 0), .lit (.int .u8 0)], .agg [.lit (.int .u8 0), .lit (.int .u8 0)], .agg [.lit (.int .u8 0), .lit (.int .u8 0)], .agg [.lit (.int .u8 0), .lit (.int .u8 0)], .agg [.lit (.int .u8 0), .lit (.int .u8 0)], .agg [.lit (.int .u8 0), .lit (.int .u8 0)], .agg [.lit (.int .u8 0), .lit (.int .u8 0)], .agg [.lit (.int .u8 0), .lit (.int .u8 0)], .agg [.lit (.int .u8 0), .lit (.int .u8 0)], .agg [.lit (.int .u8 0), .lit (.int .u8 0)], .agg [.lit (.int .u8 0), .lit (.int .u8 0)]]
def laid_strconv_ErrRange {H : Type} : DataW H := .iface "*errors.errorString" (.ptr (.agg [.lit (.string [118, 97, 108, 117, 101, 32, 111, 117, 116, 32, 111, 102, 32, 114, 97, 110, 103, 101])]))
def laid_strconv_ErrSyntax {H : Type} : DataW H := .iface "*errors.errorString" (.ptr (.agg [.lit (.string [105, 110, 118, 97, 108, 105, 100, 32, 115, 121, 110, 116, 97, 120])]))
/-- One of Go's own tables, pinned by name: the form's constant. -/
def laid_unicode_utf8_first : DataW Unit := Go.Pinned.utf8First

/-- 'laws.FnExactFrameAt': WHATEVER THE INPUT: true; the input reads as it did. -/
def fnExactFrameAtSpec : ChangeSpec := { name := "fnExactFrameAt", vars := ["loop.example/g01340/impl.errInvalid", "loop.example/g01340/impl.errRange", "loop.example/g01340/impl.errLimit", "loop.example/g01340/impl.errState", "loop.example/g01340/impl.errSyntax"], fn := fun _ => fun
  | [d1, d2, g1, g2, g3, g4, g5] => { results := [.lit (.bool true)], args := [d1, d2], vars := [g1, g2, g3, g4, g5] }
  | _ => none }
def fnExactFrameAtRow : OpenClaim := { program := "ytajlkleoincoeacdoor", sum := "139521dd0598141b71bbd9ca87da0c2fe9ad832c4c447a1e60387655a0c173f5", func := "loop.example/g01340/laws.FnExactFrameAt", spec := "fnExactFrameAt", inPlace := ["internal/reflectlite.TypeOf"], unfollowed := true, recurses := true, named := ["loop.example/g01340/impl.errInvalid", "loop.example/g01340/impl.errRange", "loop.example/g01340/impl.errLimit", "loop.example/g01340/impl.errState", "loop.example/g01340/impl.errSyntax"], ifaces := true, plainKeys := false, apart := false, laid := [("loop.example/g01340/impl.errInvalid", laid_loop_example_g01340_impl_errInvalid), ("loop.example/g01340/impl.errRange", laid_loop_example_g01340_impl_errRange), ("loop.example/g01340/impl.errLimit", laid_loop_example_g01340_impl_errLimit), ("loop.example/g01340/impl.errState", laid_loop_example_g01340_impl_errState), ("loop.example/g01340/impl.errSyntax", laid_loop_example_g01340_impl_errSyntax)] }
def FnExactFrameAtSaid : Prop := fnExactFrameAtRow.holds Tryd.pinned (OpenSpec.ofChange fnExactFrameAtSpec)

/-- ITS FALSE NEIGHBOUR: 'it returns false'. Refute it at one input. -/
def fnExactFrameAtWrong : ChangeSpec := { name := "fnExactFrameAt", vars := ["loop.example/g01340/impl.errInvalid", "loop.example/g01340/impl.errRange", "loop.example/g01340/impl.errLimit", "loop.example/g01340/impl.errState", "loop.example/g01340/impl.errSyntax"], fn := fun _ => fun
  | [d1, d2, g1, g2, g3, g4, g5] => { results := [.lit (.bool false)], args := [d1, d2], vars := [g1, g2, g3, g4, g5] }
  | _ => none }
def FnExactFrameAtWrongFalsely : Prop := fnExactFrameAtRow.holds Tryd.pinned (OpenSpec.ofChange fnExactFrameAtWrong)

/-- 'laws.FnExactThinTrack': WHATEVER THE INPUT: true; the input reads as it did. -/
def fnExactThinTrackSpec : ChangeSpec := { name := "fnExactThinTrack", vars := ["loop.example/g01340/impl.errInvalid", "loop.example/g01340/impl.errRange", "loop.example/g01340/impl.errLimit", "loop.example/g01340/impl.errState", "loop.example/g01340/impl.errSyntax"], fn := fun _ => fun
  | [d, g1, g2, g3, g4, g5] => { results := [.lit (.bool true)], args := [d], vars := [g1, g2, g3, g4, g5] }
  | _ => none }
def fnExactThinTrackRow : OpenClaim := { program := "ytajlkleoincoeacdoor", sum := "139521dd0598141b71bbd9ca87da0c2fe9ad832c4c447a1e60387655a0c173f5", func := "loop.example/g01340/laws.FnExactThinTrack", spec := "fnExactThinTrack", inPlace := ["internal/reflectlite.TypeOf"], unfollowed := true, recurses := true, named := ["loop.example/g01340/impl.errInvalid", "loop.example/g01340/impl.errRange", "loop.example/g01340/impl.errLimit", "loop.example/g01340/impl.errState", "loop.example/g01340/impl.errSyntax"], ifaces := true, plainKeys := false, apart := false, laid := [("loop.example/g01340/impl.errInvalid", laid_loop_example_g01340_impl_errInvalid), ("loop.example/g01340/impl.errRange", laid_loop_example_g01340_impl_errRange), ("loop.example/g01340/impl.errLimit", laid_loop_example_g01340_impl_errLimit), ("loop.example/g01340/impl.errState", laid_loop_example_g01340_impl_errState), ("loop.example/g01340/impl.errSyntax", laid_loop_example_g01340_impl_errSyntax)] }
def FnExactThinTrackSaid : Prop := fnExactThinTrackRow.holds Tryd.pinned (OpenSpec.ofChange fnExactThinTrackSpec)

/-- ITS FALSE NEIGHBOUR: 'it returns false'. Refute it at one input. -/
def fnExactThinTrackWrong : ChangeSpec := { name := "fnExactThinTrack", vars := ["loop.example/g01340/impl.errInvalid", "loop.example/g01340/impl.errRange", "loop.example/g01340/impl.errLimit", "loop.example/g01340/impl.errState", "loop.example/g01340/impl.errSyntax"], fn := fun _ => fun
  | [d, g1, g2, g3, g4, g5] => { results := [.lit (.bool false)], args := [d], vars := [g1, g2, g3, g4, g5] }
  | _ => none }
def FnExactThinTrackWrongFalsely : Prop := fnExactThinTrackRow.holds Tryd.pinned (OpenSpec.ofChange fnExactThinTrackWrong)

/-- 'laws.FnExactTrackText': WHATEVER THE INPUT: true; the input reads as it did. -/
def fnExactTrackTextSpec : ChangeSpec := { name := "fnExactTrackText", fn := fun _ => fun
  | [d] => { results := [.lit (.bool true)], args := [d] }
  | _ => none }
def fnExactTrackTextRow : OpenClaim := { program := "ytajlkleoincoeacdoor", sum := "139521dd0598141b71bbd9ca87da0c2fe9ad832c4c447a1e60387655a0c173f5", func := "loop.example/g01340/laws.FnExactTrackText", spec := "fnExactTrackText", inPlace := ["internal/abi.NoEscape", "internal/bytealg.MakeNoZero"], recurses := true, named := ["internal/strconv.uint64pow10", "math/bits.deBruijn32tab", "math/bits.deBruijn64tab"], plainKeys := false, apart := false, laid := [("math/bits.deBruijn32tab", laid_math_bits_deBruijn32tab), ("math/bits.deBruijn64tab", laid_math_bits_deBruijn64tab), ("internal/strconv.uint64pow10", laid_internal_strconv_uint64pow10)] }
def FnExactTrackTextSaid : Prop := fnExactTrackTextRow.holds Tryd.pinned (OpenSpec.ofChange fnExactTrackTextSpec)

/-- ITS FALSE NEIGHBOUR: 'it returns false'. Refute it at one input. -/
def fnExactTrackTextWrong : ChangeSpec := { name := "fnExactTrackText", fn := fun _ => fun
  | [d] => { results := [.lit (.bool false)], args := [d] }
  | _ => none }
def FnExactTrackTextWrongFalsely : Prop := fnExactTrackTextRow.holds Tryd.pinned (OpenSpec.ofChange fnExactTrackTextWrong)

/-- 'laws.FnExactReadTrack': WHATEVER THE INPUT: true; the input reads as it did. -/
def fnExactReadTrackSpec : ChangeSpec := { name := "fnExactReadTrack", vars := ["loop.example/g01340/impl.errSyntax", "loop.example/g01340/impl.errInvalid", "loop.example/g01340/impl.errRange", "loop.example/g01340/impl.errLimit", "loop.example/g01340/impl.errState"], fn := fun _ => fun
  | [d, g1, g2, g3, g4, g5] => { results := [.lit (.bool true)], args := [d], vars := [g1, g2, g3, g4, g5] }
  | _ => none }
def fnExactReadTrackRow : OpenClaim := { program := "ytajlkleoincoeacdoor", sum := "139521dd0598141b71bbd9ca87da0c2fe9ad832c4c447a1e60387655a0c173f5", func := "loop.example/g01340/laws.FnExactReadTrack", spec := "fnExactReadTrack", inPlace := ["internal/bytealg.IndexByteString", "internal/bytealg.IndexString", "internal/reflectlite.TypeOf", "internal/abi.NoEscape", "internal/bytealg.MakeNoZero"], unfollowed := true, recurses := true, named := ["unicode/utf8.first", "unicode/utf8.acceptRanges", "internal/bytealg.MaxLen", "loop.example/g01340/impl.errSyntax", "strconv.ErrSyntax", "strconv.ErrRange", "internal/strconv.uint64pow10", "math/bits.deBruijn32tab", "math/bits.deBruijn64tab", "loop.example/g01340/impl.errInvalid", "loop.example/g01340/impl.errRange", "loop.example/g01340/impl.errLimit", "loop.example/g01340/impl.errState"], ifaces := true, plainKeys := false, apart := false, laid := [("math/bits.deBruijn32tab", laid_math_bits_deBruijn32tab), ("math/bits.deBruijn64tab", laid_math_bits_deBruijn64tab), ("internal/strconv.uint64pow10", laid_internal_strconv_uint64pow10), ("unicode/utf8.acceptRanges", laid_unicode_utf8_acceptRanges), ("strconv.ErrRange", laid_strconv_ErrRange), ("strconv.ErrSyntax", laid_strconv_ErrSyntax), ("loop.example/g01340/impl.errInvalid", laid_loop_example_g01340_impl_errInvalid), ("loop.example/g01340/impl.errRange", laid_loop_example_g01340_impl_errRange), ("loop.example/g01340/impl.errLimit", laid_loop_example_g01340_impl_errLimit), ("loop.example/g01340/impl.errState", laid_loop_example_g01340_impl_errState), ("loop.example/g01340/impl.errSyntax", laid_loop_example_g01340_impl_errSyntax), ("unicode/utf8.first", laid_unicode_utf8_first)] }
def FnExactReadTrackSaid : Prop := fnExactReadTrackRow.holds Tryd.pinned (OpenSpec.ofChange fnExactReadTrackSpec)

/-- ITS FALSE NEIGHBOUR: 'it returns false'. Refute it at one input. -/
def fnExactReadTrackWrong : ChangeSpec := { name := "fnExactReadTrack", vars := ["loop.example/g01340/impl.errSyntax", "loop.example/g01340/impl.errInvalid", "loop.example/g01340/impl.errRange", "loop.example/g01340/impl.errLimit", "loop.example/g01340/impl.errState"], fn := fun _ => fun
  | [d, g1, g2, g3, g4, g5] => { results := [.lit (.bool false)], args := [d], vars := [g1, g2, g3, g4, g5] }
  | _ => none }
def FnExactReadTrackWrongFalsely : Prop := fnExactReadTrackRow.holds Tryd.pinned (OpenSpec.ofChange fnExactReadTrackWrong)

/-- 'laws.FnMorphs': WHATEVER THE INPUT: true; the input reads as it did. -/
def fnMorphsSpec : ChangeSpec := { name := "fnMorphs", vars := ["loop.example/g01340/impl.errInvalid", "loop.example/g01340/impl.errRange", "loop.example/g01340/impl.errLimit", "loop.example/g01340/impl.errState", "loop.example/g01340/impl.errSyntax"], fn := fun _ => fun
  | [d1, d2, g1, g2, g3, g4, g5] => { results := [.lit (.bool true)], args := [d1, d2], vars := [g1, g2, g3, g4, g5] }
  | _ => none }
def fnMorphsRow : OpenClaim := { program := "ytajlkleoincoeacdoor", sum := "139521dd0598141b71bbd9ca87da0c2fe9ad832c4c447a1e60387655a0c173f5", func := "loop.example/g01340/laws.FnMorphs", spec := "fnMorphs", inPlace := ["internal/reflectlite.TypeOf"], unfollowed := true, recurses := true, named := ["loop.example/g01340/impl.errInvalid", "loop.example/g01340/impl.errRange", "loop.example/g01340/impl.errLimit", "loop.example/g01340/impl.errState", "loop.example/g01340/impl.errSyntax"], ifaces := true, plainKeys := false, apart := false, laid := [("loop.example/g01340/impl.errInvalid", laid_loop_example_g01340_impl_errInvalid), ("loop.example/g01340/impl.errRange", laid_loop_example_g01340_impl_errRange), ("loop.example/g01340/impl.errLimit", laid_loop_example_g01340_impl_errLimit), ("loop.example/g01340/impl.errState", laid_loop_example_g01340_impl_errState), ("loop.example/g01340/impl.errSyntax", laid_loop_example_g01340_impl_errSyntax)] }
def FnMorphsSaid : Prop := fnMorphsRow.holds Tryd.pinned (OpenSpec.ofChange fnMorphsSpec)

/-- ITS FALSE NEIGHBOUR: 'it returns false'. Refute it at one input. -/
def fnMorphsWrong : ChangeSpec := { name := "fnMorphs", vars := ["loop.example/g01340/impl.errInvalid", "loop.example/g01340/impl.errRange", "loop.example/g01340/impl.errLimit", "loop.example/g01340/impl.errState", "loop.example/g01340/impl.errSyntax"], fn := fun _ => fun
  | [d1, d2, g1, g2, g3, g4, g5] => { results := [.lit (.bool false)], args := [d1, d2], vars := [g1, g2, g3, g4, g5] }
  | _ => none }
def FnMorphsWrongFalsely : Prop := fnMorphsRow.holds Tryd.pinned (OpenSpec.ofChange fnMorphsWrong)

/- THE SECOND FORM. 'bulk': how many values and letters a reading holds, each counted each time it is reached (what is shared counts as often as it is met; a slice's spare places count too). A statement '..UptoSaid' is the law's where the arguments, and the package variables that the reading takes, are together of bulk at most 1048576: NARROWER than '..Said'. Prove '..Said' where nothing that the law and all that it calls make is longer than what came in: it says more and counts as full. Else prove '..UptoSaid'. A law counts once. -/
mutual
def uptoBulk {H : Type} : DataW H → Nat
  | .lit (.string bytes) => bytes.length + 1
  | .lit _ => 1
  | .nil => 1
  | .ptr d => uptoBulk d + 1
  | .slice elems spare => uptoBulkAll elems + uptoBulkAll spare + 1
  | .agg parts => uptoBulkAll parts + 1
  | .iface _ d => uptoBulk d + 1
  | .map entries => uptoBulkEntries entries + 1
  | .held _ => 1
def uptoBulkAll {H : Type} : List (DataW H) → Nat
  | [] => 0
  | d :: r => uptoBulk d + uptoBulkAll r
def uptoBulkEntries {H : Type} : List (Lit × DataW H) → Nat
  | [] => 0
  | x :: r => uptoBulkEntry x + uptoBulkEntries r
def uptoBulkEntry {H : Type} : Lit × DataW H → Nat
  | (.string bytes, d) => bytes.length + uptoBulk d + 1
  | (_, d) => uptoBulk d + 1
 end
def uptoSmall : (H : Type) → List (DataW H) → Bool := fun _ ds => decide (uptoBulkAll ds ≤ 1048576)
def OpenSpec.upto (s : _root_.Go.ChangeSpec) : _root_.Go.OpenSpec := { _root_.Go.OpenSpec.ofChange s with cond := some uptoSmall }

/-- 'laws.FnExactFrameAt', WHERE WHAT IT READS IS OF BULK AT MOST 1048576: true; the input reads as it did. -/
def fnExactFrameAtUptoRow : OpenClaim := { program := "ytajlkleoincoeacdoor", sum := "139521dd0598141b71bbd9ca87da0c2fe9ad832c4c447a1e60387655a0c173f5", func := "loop.example/g01340/laws.FnExactFrameAt", spec := "fnExactFrameAt", inPlace := ["internal/reflectlite.TypeOf"], unfollowed := true, recurses := true, named := ["loop.example/g01340/impl.errInvalid", "loop.example/g01340/impl.errRange", "loop.example/g01340/impl.errLimit", "loop.example/g01340/impl.errState", "loop.example/g01340/impl.errSyntax"], ifaces := true, plainKeys := false, apart := false, laid := [("loop.example/g01340/impl.errInvalid", laid_loop_example_g01340_impl_errInvalid), ("loop.example/g01340/impl.errRange", laid_loop_example_g01340_impl_errRange), ("loop.example/g01340/impl.errLimit", laid_loop_example_g01340_impl_errLimit), ("loop.example/g01340/impl.errState", laid_loop_example_g01340_impl_errState), ("loop.example/g01340/impl.errSyntax", laid_loop_example_g01340_impl_errSyntax)], narrowed := true }
def FnExactFrameAtUptoSaid : Prop := fnExactFrameAtUptoRow.holds Tryd.pinned (OpenSpec.upto fnExactFrameAtSpec)

/-- 'laws.FnExactThinTrack', WHERE WHAT IT READS IS OF BULK AT MOST 1048576: true; the input reads as it did. -/
def fnExactThinTrackUptoRow : OpenClaim := { program := "ytajlkleoincoeacdoor", sum := "139521dd0598141b71bbd9ca87da0c2fe9ad832c4c447a1e60387655a0c173f5", func := "loop.example/g01340/laws.FnExactThinTrack", spec := "fnExactThinTrack", inPlace := ["internal/reflectlite.TypeOf"], unfollowed := true, recurses := true, named := ["loop.example/g01340/impl.errInvalid", "loop.example/g01340/impl.errRange", "loop.example/g01340/impl.errLimit", "loop.example/g01340/impl.errState", "loop.example/g01340/impl.errSyntax"], ifaces := true, plainKeys := false, apart := false, laid := [("loop.example/g01340/impl.errInvalid", laid_loop_example_g01340_impl_errInvalid), ("loop.example/g01340/impl.errRange", laid_loop_example_g01340_impl_errRange), ("loop.example/g01340/impl.errLimit", laid_loop_example_g01340_impl_errLimit), ("loop.example/g01340/impl.errState", laid_loop_example_g01340_impl_errState), ("loop.example/g01340/impl.errSyntax", laid_loop_example_g01340_impl_errSyntax)], narrowed := true }
def FnExactThinTrackUptoSaid : Prop := fnExactThinTrackUptoRow.holds Tryd.pinned (OpenSpec.upto fnExactThinTrackSpec)

/-- 'laws.FnExactTrackText', WHERE WHAT IT READS IS OF BULK AT MOST 1048576: true; the input reads as it did. -/
def fnExactTrackTextUptoRow : OpenClaim := { program := "ytajlkleoincoeacdoor", sum := "139521dd0598141b71bbd9ca87da0c2fe9ad832c4c447a1e60387655a0c173f5", func := "loop.example/g01340/laws.FnExactTrackText", spec := "fnExactTrackText", inPlace := ["internal/abi.NoEscape", "internal/bytealg.MakeNoZero"], recurses := true, named := ["internal/strconv.uint64pow10", "math/bits.deBruijn32tab", "math/bits.deBruijn64tab"], plainKeys := false, apart := false, laid := [("math/bits.deBruijn32tab", laid_math_bits_deBruijn32tab), ("math/bits.deBruijn64tab", laid_math_bits_deBruijn64tab), ("internal/strconv.uint64pow10", laid_internal_strconv_uint64pow10)], narrowed := true }
def FnExactTrackTextUptoSaid : Prop := fnExactTrackTextUptoRow.holds Tryd.pinned (OpenSpec.upto fnExactTrackTextSpec)

/-- 'laws.FnExactReadTrack', WHERE WHAT IT READS IS OF BULK AT MOST 1048576: true; the input reads as it did. -/
def fnExactReadTrackUptoRow : OpenClaim := { program := "ytajlkleoincoeacdoor", sum := "139521dd0598141b71bbd9ca87da0c2fe9ad832c4c447a1e60387655a0c173f5", func := "loop.example/g01340/laws.FnExactReadTrack", spec := "fnExactReadTrack", inPlace := ["internal/bytealg.IndexByteString", "internal/bytealg.IndexString", "internal/reflectlite.TypeOf", "internal/abi.NoEscape", "internal/bytealg.MakeNoZero"], unfollowed := true, recurses := true, named := ["unicode/utf8.first", "unicode/utf8.acceptRanges", "internal/bytealg.MaxLen", "loop.example/g01340/impl.errSyntax", "strconv.ErrSyntax", "strconv.ErrRange", "internal/strconv.uint64pow10", "math/bits.deBruijn32tab", "math/bits.deBruijn64tab", "loop.example/g01340/impl.errInvalid", "loop.example/g01340/impl.errRange", "loop.example/g01340/impl.errLimit", "loop.example/g01340/impl.errState"], ifaces := true, plainKeys := false, apart := false, laid := [("math/bits.deBruijn32tab", laid_math_bits_deBruijn32tab), ("math/bits.deBruijn64tab", laid_math_bits_deBruijn64tab), ("internal/strconv.uint64pow10", laid_internal_strconv_uint64pow10), ("unicode/utf8.acceptRanges", laid_unicode_utf8_acceptRanges), ("strconv.ErrRange", laid_strconv_ErrRange), ("strconv.ErrSyntax", laid_strconv_ErrSyntax), ("loop.example/g01340/impl.errInvalid", laid_loop_example_g01340_impl_errInvalid), ("loop.example/g01340/impl.errRange", laid_loop_example_g01340_impl_errRange), ("loop.example/g01340/impl.errLimit", laid_loop_example_g01340_impl_errLimit), ("loop.example/g01340/impl.errState", laid_loop_example_g01340_impl_errState), ("loop.example/g01340/impl.errSyntax", laid_loop_example_g01340_impl_errSyntax), ("unicode/utf8.first", laid_unicode_utf8_first)], narrowed := true }
def FnExactReadTrackUptoSaid : Prop := fnExactReadTrackUptoRow.holds Tryd.pinned (OpenSpec.upto fnExactReadTrackSpec)

/-- 'laws.FnMorphs', WHERE WHAT IT READS IS OF BULK AT MOST 1048576: true; the input reads as it did. -/
def fnMorphsUptoRow : OpenClaim := { program := "ytajlkleoincoeacdoor", sum := "139521dd0598141b71bbd9ca87da0c2fe9ad832c4c447a1e60387655a0c173f5", func := "loop.example/g01340/laws.FnMorphs", spec := "fnMorphs", inPlace := ["internal/reflectlite.TypeOf"], unfollowed := true, recurses := true, named := ["loop.example/g01340/impl.errInvalid", "loop.example/g01340/impl.errRange", "loop.example/g01340/impl.errLimit", "loop.example/g01340/impl.errState", "loop.example/g01340/impl.errSyntax"], ifaces := true, plainKeys := false, apart := false, laid := [("loop.example/g01340/impl.errInvalid", laid_loop_example_g01340_impl_errInvalid), ("loop.example/g01340/impl.errRange", laid_loop_example_g01340_impl_errRange), ("loop.example/g01340/impl.errLimit", laid_loop_example_g01340_impl_errLimit), ("loop.example/g01340/impl.errState", laid_loop_example_g01340_impl_errState), ("loop.example/g01340/impl.errSyntax", laid_loop_example_g01340_impl_errSyntax)], narrowed := true }
def FnMorphsUptoSaid : Prop := fnMorphsUptoRow.holds Tryd.pinned (OpenSpec.upto fnMorphsSpec)

end Rows
end Go.Proofs.YtajlkleoincoeacDoor
