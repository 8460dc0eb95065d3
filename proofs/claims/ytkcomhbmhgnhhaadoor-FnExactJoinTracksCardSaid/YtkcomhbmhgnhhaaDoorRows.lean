/-
  NARROWER THAN 'FOR EVERY INPUT', by the rows' own cells (each row's printed sentence says how): FnExactJoinTracks: ifaces, laid · FnExactThinTrack: ifaces, laid · FnExactFrameAt: ifaces, laid.
  DERIVED. THE GIVEN ROWS OF THIS SEAT. 3 by the template 'for every input the law returns true; each argument reads behind the call as it read before'; 0 by the template 'total and deterministic' (their statements: YtkcomhbmhgnhhaaDoorTotals.lean).
  GIVEN WITH THE SEED: the statements are not yours to turn. If you find one false, say at which input.
  Laid BY PROGRAM, IN A SANDBOX (cutbox-rows.mjs): the forced cells as the released guide's own fill.sh prints them over the translation dcd0f6f4983d8034… (all of the seat's roots in one cut). By AI agents, Wed Nov 11 2026. No macro, syntax, notation, axiom, sorry.
-/
import Derived.Test.YtkcomhbmhgnhhaaDoorChecked
import GoSem.Claim
import GoSem.ClaimJoined
import GoSem.ClaimMapViews
import Derived.JoinedTies
import Derived.KernelRfl
namespace Go.Proofs.YtkcomhbmhgnhhaaDoor
/- THE CELL 'sum', in the pinned program and in every row, IS THE sha256 OF THE DUMP (.gsa) THAT YtkcomhbmhgnhhaaDoorProg.lean LOADS. Nothing in Lean hashes anything: it is a label: what it is worth is what the hold of that sum in a sandbox is worth. -/
noncomputable def Tryd.pinned : Pinned := { name := "ytkcomhbmhgnhhaadoor", sum := "dcd0f6f4983d8034c57314851a9fb5f7b61c4480f32b80187d8b9dbc696d3e1f", checked := Tryd.checked }
namespace Rows
def none {H : Type} : Left H := { results := [], args := [] }

/- WHAT THE LISTED PACKAGE-LEVEL VARIABLES READ AS WHEN THE CALL BEGINS. Each datum BY PROGRAM (the guide's laid-datum.mjs) off the statement by which the dump's own 'gosem.cut.vars' lays the variable. In a bare row this is a premise. The card (YtkcomhbmhgnhhaaDoorCards.lean) ties it to the program's text. -/
def laid_loop_example_g01340_impl_errInvalid {H : Type} : DataW H := .iface "*errors.errorString" (.ptr (.agg [.lit (.string [97, 32, 116, 114, 97, 99, 107, 44, 32, 97, 32, 112, 97, 114, 116, 32, 111, 114, 32, 97, 32, 102, 114, 97, 109, 101, 32, 105, 115, 32, 110, 111, 116, 32, 118, 97, 108, 105, 100])]))
def laid_loop_example_g01340_impl_errRange {H : Type} : DataW H := .iface "*errors.errorString" (.ptr (.agg [.lit (.string [97, 32, 110, 117, 109, 98, 101, 114, 32, 105, 115, 32, 111, 117, 116, 32, 111, 102, 32, 114, 97, 110, 103, 101])]))
def laid_loop_example_g01340_impl_errLimit {H : Type} : DataW H := .iface "*errors.errorString" (.ptr (.agg [.lit (.string [116, 104, 101, 32, 114, 101, 115, 117, 108, 116, 32, 119, 111, 117, 108, 100, 32, 98, 101, 32, 116, 111, 111, 32, 108, 97, 114, 103, 101])]))
def laid_loop_example_g01340_impl_errState {H : Type} : DataW H := .iface "*errors.errorString" (.ptr (.agg [.lit (.string [116, 104, 101, 32, 116, 114, 97, 99, 107, 115, 32, 100, 111, 32, 110, 111, 116, 32, 109, 101, 101, 116])]))
def laid_loop_example_g01340_impl_errSyntax {H : Type} : DataW H := .iface "*errors.errorString" (.ptr (.agg [.lit (.string [116, 104, 101, 32, 116, 101, 120, 116, 32, 105, 115, 32, 116, 104, 97, 116, 32, 111, 102, 32, 110, 111, 32, 116, 114, 97, 99, 107])]))

/-- 'laws.FnExactJoinTracks': WHATEVER THE INPUT: true; the input reads as it did. -/
def fnExactJoinTracksSpec : ChangeSpec := { name := "fnExactJoinTracks", vars := ["loop.example/g01340/impl.errInvalid", "loop.example/g01340/impl.errState", "loop.example/g01340/impl.errLimit", "loop.example/g01340/impl.errRange", "loop.example/g01340/impl.errSyntax"], fn := fun _ => fun
  | [d1, d2, g1, g2, g3, g4, g5] => { results := [.lit (.bool true)], args := [d1, d2], vars := [g1, g2, g3, g4, g5] }
  | _ => none }
def fnExactJoinTracksRow : OpenClaim := { program := "ytkcomhbmhgnhhaadoor", sum := "dcd0f6f4983d8034c57314851a9fb5f7b61c4480f32b80187d8b9dbc696d3e1f", func := "loop.example/g01340/laws.FnExactJoinTracks", spec := "fnExactJoinTracks", inPlace := ["internal/reflectlite.TypeOf"], unfollowed := true, recurses := true, named := ["loop.example/g01340/impl.errInvalid", "loop.example/g01340/impl.errState", "loop.example/g01340/impl.errLimit", "loop.example/g01340/impl.errRange", "loop.example/g01340/impl.errSyntax"], ifaces := true, plainKeys := false, apart := false, laid := [("loop.example/g01340/impl.errInvalid", laid_loop_example_g01340_impl_errInvalid), ("loop.example/g01340/impl.errRange", laid_loop_example_g01340_impl_errRange), ("loop.example/g01340/impl.errLimit", laid_loop_example_g01340_impl_errLimit), ("loop.example/g01340/impl.errState", laid_loop_example_g01340_impl_errState), ("loop.example/g01340/impl.errSyntax", laid_loop_example_g01340_impl_errSyntax)] }
def FnExactJoinTracksSaid : Prop := fnExactJoinTracksRow.holds Tryd.pinned (OpenSpec.ofChange fnExactJoinTracksSpec)

/-- ITS FALSE NEIGHBOUR: 'it returns false'. Refute it at one input. -/
def fnExactJoinTracksWrong : ChangeSpec := { name := "fnExactJoinTracks", vars := ["loop.example/g01340/impl.errInvalid", "loop.example/g01340/impl.errState", "loop.example/g01340/impl.errLimit", "loop.example/g01340/impl.errRange", "loop.example/g01340/impl.errSyntax"], fn := fun _ => fun
  | [d1, d2, g1, g2, g3, g4, g5] => { results := [.lit (.bool false)], args := [d1, d2], vars := [g1, g2, g3, g4, g5] }
  | _ => none }
def FnExactJoinTracksWrongFalsely : Prop := fnExactJoinTracksRow.holds Tryd.pinned (OpenSpec.ofChange fnExactJoinTracksWrong)

/-- 'laws.FnExactThinTrack': WHATEVER THE INPUT: true; the input reads as it did. -/
def fnExactThinTrackSpec : ChangeSpec := { name := "fnExactThinTrack", vars := ["loop.example/g01340/impl.errInvalid", "loop.example/g01340/impl.errRange", "loop.example/g01340/impl.errLimit", "loop.example/g01340/impl.errState", "loop.example/g01340/impl.errSyntax"], fn := fun _ => fun
  | [d, g1, g2, g3, g4, g5] => { results := [.lit (.bool true)], args := [d], vars := [g1, g2, g3, g4, g5] }
  | _ => none }
def fnExactThinTrackRow : OpenClaim := { program := "ytkcomhbmhgnhhaadoor", sum := "dcd0f6f4983d8034c57314851a9fb5f7b61c4480f32b80187d8b9dbc696d3e1f", func := "loop.example/g01340/laws.FnExactThinTrack", spec := "fnExactThinTrack", inPlace := ["internal/reflectlite.TypeOf"], unfollowed := true, recurses := true, named := ["loop.example/g01340/impl.errInvalid", "loop.example/g01340/impl.errRange", "loop.example/g01340/impl.errLimit", "loop.example/g01340/impl.errState", "loop.example/g01340/impl.errSyntax"], ifaces := true, plainKeys := false, apart := false, laid := [("loop.example/g01340/impl.errInvalid", laid_loop_example_g01340_impl_errInvalid), ("loop.example/g01340/impl.errRange", laid_loop_example_g01340_impl_errRange), ("loop.example/g01340/impl.errLimit", laid_loop_example_g01340_impl_errLimit), ("loop.example/g01340/impl.errState", laid_loop_example_g01340_impl_errState), ("loop.example/g01340/impl.errSyntax", laid_loop_example_g01340_impl_errSyntax)] }
def FnExactThinTrackSaid : Prop := fnExactThinTrackRow.holds Tryd.pinned (OpenSpec.ofChange fnExactThinTrackSpec)

/-- ITS FALSE NEIGHBOUR: 'it returns false'. Refute it at one input. -/
def fnExactThinTrackWrong : ChangeSpec := { name := "fnExactThinTrack", vars := ["loop.example/g01340/impl.errInvalid", "loop.example/g01340/impl.errRange", "loop.example/g01340/impl.errLimit", "loop.example/g01340/impl.errState", "loop.example/g01340/impl.errSyntax"], fn := fun _ => fun
  | [d, g1, g2, g3, g4, g5] => { results := [.lit (.bool false)], args := [d], vars := [g1, g2, g3, g4, g5] }
  | _ => none }
def FnExactThinTrackWrongFalsely : Prop := fnExactThinTrackRow.holds Tryd.pinned (OpenSpec.ofChange fnExactThinTrackWrong)

/-- 'laws.FnExactFrameAt': WHATEVER THE INPUT: true; the input reads as it did. -/
def fnExactFrameAtSpec : ChangeSpec := { name := "fnExactFrameAt", vars := ["loop.example/g01340/impl.errInvalid", "loop.example/g01340/impl.errRange", "loop.example/g01340/impl.errLimit", "loop.example/g01340/impl.errState", "loop.example/g01340/impl.errSyntax"], fn := fun _ => fun
  | [d1, d2, g1, g2, g3, g4, g5] => { results := [.lit (.bool true)], args := [d1, d2], vars := [g1, g2, g3, g4, g5] }
  | _ => none }
def fnExactFrameAtRow : OpenClaim := { program := "ytkcomhbmhgnhhaadoor", sum := "dcd0f6f4983d8034c57314851a9fb5f7b61c4480f32b80187d8b9dbc696d3e1f", func := "loop.example/g01340/laws.FnExactFrameAt", spec := "fnExactFrameAt", inPlace := ["internal/reflectlite.TypeOf"], unfollowed := true, recurses := true, named := ["loop.example/g01340/impl.errInvalid", "loop.example/g01340/impl.errRange", "loop.example/g01340/impl.errLimit", "loop.example/g01340/impl.errState", "loop.example/g01340/impl.errSyntax"], ifaces := true, plainKeys := false, apart := false, laid := [("loop.example/g01340/impl.errInvalid", laid_loop_example_g01340_impl_errInvalid), ("loop.example/g01340/impl.errRange", laid_loop_example_g01340_impl_errRange), ("loop.example/g01340/impl.errLimit", laid_loop_example_g01340_impl_errLimit), ("loop.example/g01340/impl.errState", laid_loop_example_g01340_impl_errState), ("loop.example/g01340/impl.errSyntax", laid_loop_example_g01340_impl_errSyntax)] }
def FnExactFrameAtSaid : Prop := fnExactFrameAtRow.holds Tryd.pinned (OpenSpec.ofChange fnExactFrameAtSpec)

/-- ITS FALSE NEIGHBOUR: 'it returns false'. Refute it at one input. -/
def fnExactFrameAtWrong : ChangeSpec := { name := "fnExactFrameAt", vars := ["loop.example/g01340/impl.errInvalid", "loop.example/g01340/impl.errRange", "loop.example/g01340/impl.errLimit", "loop.example/g01340/impl.errState", "loop.example/g01340/impl.errSyntax"], fn := fun _ => fun
  | [d1, d2, g1, g2, g3, g4, g5] => { results := [.lit (.bool false)], args := [d1, d2], vars := [g1, g2, g3, g4, g5] }
  | _ => none }
def FnExactFrameAtWrongFalsely : Prop := fnExactFrameAtRow.holds Tryd.pinned (OpenSpec.ofChange fnExactFrameAtWrong)

/- THE SECOND FORM. 'bulk': how many values and letters a reading holds, each counted each time it is reached (what is shared counts as often as it is met; a slice's spare places count too). A statement '..UptoSaid' is the law's where the arguments, and the package variables that the reading takes, are together of bulk at most 1048576: NARROWER than '..Said'. Prove '..Said' where nothing that the law and all that it calls make is longer than what came in: it says more and counts as full. Else prove '..UptoSaid'. A law counts once. -/
mutual
def uptoBulk {H : Type} : DataW H → Nat
  | .lit (.string bytes) => bytes.length + 1
  | .lit _ => 1
  | .nil => 1
  | .ptr d => uptoBulk d + 1
  | .slice elems spare => uptoBulkAll elems + uptoBulkAll spare + 1
  | .agg parts => uptoBulkAll parts + 1
  | .iface _ d => uptoBulk d + 1
  | .map entries => uptoBulkEntries entries + 1
  | .held _ => 1
def uptoBulkAll {H : Type} : List (DataW H) → Nat
  | [] => 0
  | d :: r => uptoBulk d + uptoBulkAll r
def uptoBulkEntries {H : Type} : List (Lit × DataW H) → Nat
  | [] => 0
  | x :: r => uptoBulkEntry x + uptoBulkEntries r
def uptoBulkEntry {H : Type} : Lit × DataW H → Nat
  | (.string bytes, d) => bytes.length + uptoBulk d + 1
  | (_, d) => uptoBulk d + 1
 end
def uptoSmall : (H : Type) → List (DataW H) → Bool := fun _ ds => decide (uptoBulkAll ds ≤ 1048576)
def OpenSpec.upto (s : _root_.Go.ChangeSpec) : _root_.Go.OpenSpec := { _root_.Go.OpenSpec.ofChange s with cond := some uptoSmall }

/-- 'laws.FnExactJoinTracks', WHERE WHAT IT READS IS OF BULK AT MOST 1048576: true; the input reads as it did. -/
def fnExactJoinTracksUptoRow : OpenClaim := { program := "ytkcomhbmhgnhhaadoor", sum := "dcd0f6f4983d8034c57314851a9fb5f7b61c4480f32b80187d8b9dbc696d3e1f", func := "loop.example/g01340/laws.FnExactJoinTracks", spec := "fnExactJoinTracks", inPlace := ["internal/reflectlite.TypeOf"], unfollowed := true, recurses := true, named := ["loop.example/g01340/impl.errInvalid", "loop.example/g01340/impl.errState", "loop.example/g01340/impl.errLimit", "loop.example/g01340/impl.errRange", "loop.example/g01340/impl.errSyntax"], ifaces := true, plainKeys := false, apart := false, laid := [("loop.example/g01340/impl.errInvalid", laid_loop_example_g01340_impl_errInvalid), ("loop.example/g01340/impl.errRange", laid_loop_example_g01340_impl_errRange), ("loop.example/g01340/impl.errLimit", laid_loop_example_g01340_impl_errLimit), ("loop.example/g01340/impl.errState", laid_loop_example_g01340_impl_errState), ("loop.example/g01340/impl.errSyntax", laid_loop_example_g01340_impl_errSyntax)], narrowed := true }
def FnExactJoinTracksUptoSaid : Prop := fnExactJoinTracksUptoRow.holds Tryd.pinned (OpenSpec.upto fnExactJoinTracksSpec)

/-- 'laws.FnExactThinTrack', WHERE WHAT IT READS IS OF BULK AT MOST 1048576: true; the input reads as it did. -/
def fnExactThinTrackUptoRow : OpenClaim := { program := "ytkcomhbmhgnhhaadoor", sum := "dcd0f6f4983d8034c57314851a9fb5f7b61c4480f32b80187d8b9dbc696d3e1f", func := "loop.example/g01340/laws.FnExactThinTrack", spec := "fnExactThinTrack", inPlace := ["internal/reflectlite.TypeOf"], unfollowed := true, recurses := true, named := ["loop.example/g01340/impl.errInvalid", "loop.example/g01340/impl.errRange", "loop.example/g01340/impl.errLimit", "loop.example/g01340/impl.errState", "loop.example/g01340/impl.errSyntax"], ifaces := true, plainKeys := false, apart := false, laid := [("loop.example/g01340/impl.errInvalid", laid_loop_example_g01340_impl_errInvalid), ("loop.example/g01340/impl.errRange", laid_loop_example_g01340_impl_errRange), ("loop.example/g01340/impl.errLimit", laid_loop_example_g01340_impl_errLimit), ("loop.example/g01340/impl.errState", laid_loop_example_g01340_impl_errState), ("loop.example/g01340/impl.errSyntax", laid_loop_example_g01340_impl_errSyntax)], narrowed := true }
def FnExactThinTrackUptoSaid : Prop := fnExactThinTrackUptoRow.holds Tryd.pinned (OpenSpec.upto fnExactThinTrackSpec)

/-- 'laws.FnExactFrameAt', WHERE WHAT IT READS IS OF BULK AT MOST 1048576: true; the input reads as it did. -/
def fnExactFrameAtUptoRow : OpenClaim := { program := "ytkcomhbmhgnhhaadoor", sum := "dcd0f6f4983d8034c57314851a9fb5f7b61c4480f32b80187d8b9dbc696d3e1f", func := "loop.example/g01340/laws.FnExactFrameAt", spec := "fnExactFrameAt", inPlace := ["internal/reflectlite.TypeOf"], unfollowed := true, recurses := true, named := ["loop.example/g01340/impl.errInvalid", "loop.example/g01340/impl.errRange", "loop.example/g01340/impl.errLimit", "loop.example/g01340/impl.errState", "loop.example/g01340/impl.errSyntax"], ifaces := true, plainKeys := false, apart := false, laid := [("loop.example/g01340/impl.errInvalid", laid_loop_example_g01340_impl_errInvalid), ("loop.example/g01340/impl.errRange", laid_loop_example_g01340_impl_errRange), ("loop.example/g01340/impl.errLimit", laid_loop_example_g01340_impl_errLimit), ("loop.example/g01340/impl.errState", laid_loop_example_g01340_impl_errState), ("loop.example/g01340/impl.errSyntax", laid_loop_example_g01340_impl_errSyntax)], narrowed := true }
def FnExactFrameAtUptoSaid : Prop := fnExactFrameAtUptoRow.holds Tryd.pinned (OpenSpec.upto fnExactFrameAtSpec)

end Rows
end Go.Proofs.YtkcomhbmhgnhhaaDoor
