/-
  No cell of these rows narrows 'for every input' (looked for: loops, veiled, ifaces, maps, wideKeys, modest, calm, conditions, laid).
  DERIVED. THE GIVEN ROWS OF THIS SEAT. 8 by the template 'for every input the law returns true; each argument reads behind the call as it read before'; 0 by the template 'total and deterministic' (their statements: YtjbjbdkmomkclabTotals.lean).
  GIVEN WITH THE SEED: the statements are not yours to turn. If you find one false, say at which input.
  Laid BY PROGRAM, IN A SANDBOX (cutbox-rows.mjs): the forced cells as the released guide's own fill.sh prints them over the translation 7365f310166dddf3… (all of the seat's roots in one cut). By AI agents, Wed Nov 11 2026. No macro, syntax, notation, axiom, sorry.
-/
import Derived.Test.YtjbjbdkmomkclabChecked
import GoSem.Claim
import GoSem.ClaimJoined
import GoSem.ClaimMapViews
import Derived.JoinedTies
import Derived.KernelRfl
namespace Go.Proofs.Ytjbjbdkmomkclab
/- THE CELL 'sum', in the pinned program and in every row, IS THE sha256 OF THE DUMP (.gsa) THAT YtjbjbdkmomkclabProg.lean LOADS. Nothing in Lean hashes anything: it is a label: what it is worth is what the hold of that sum in a sandbox is worth. -/
noncomputable def Try.pinned : Pinned := { name := "ytjbjbdkmomkclab", sum := "7365f310166dddf33fd80c52f47bde13f0bef37a4cd7124feea873a1b12fbda8", checked := Try.checked }
namespace Rows
def none {H : Type} : Left H := { results := [], args := [] }

/-- 'laws.FnExactCheckSteps': WHATEVER THE INPUT: true; the input reads as it did. -/
def fnExactCheckStepsSpec : ChangeSpec := { name := "fnExactCheckSteps", fn := fun _ => fun
  | [d1, d2] => { results := [.lit (.bool true)], args := [d1, d2] }
  | _ => none }
def fnExactCheckStepsRow : OpenClaim := { program := "ytjbjbdkmomkclab", sum := "7365f310166dddf33fd80c52f47bde13f0bef37a4cd7124feea873a1b12fbda8", func := "loop.example/g01340/laws.FnExactCheckSteps", spec := "fnExactCheckSteps", unfollowed := true, recurses := true, apart := false }
def FnExactCheckStepsSaid : Prop := fnExactCheckStepsRow.holds Try.pinned (OpenSpec.ofChange fnExactCheckStepsSpec)

/-- ITS FALSE NEIGHBOUR: 'it returns false'. Refute it at one input. -/
def fnExactCheckStepsWrong : ChangeSpec := { name := "fnExactCheckSteps", fn := fun _ => fun
  | [d1, d2] => { results := [.lit (.bool false)], args := [d1, d2] }
  | _ => none }
def FnExactCheckStepsWrongFalsely : Prop := fnExactCheckStepsRow.holds Try.pinned (OpenSpec.ofChange fnExactCheckStepsWrong)

/-- 'laws.FnExactFirstUnlike': WHATEVER THE INPUT: true; the input reads as it did. -/
def fnExactFirstUnlikeSpec : ChangeSpec := { name := "fnExactFirstUnlike", fn := fun _ => fun
  | [d1, d2] => { results := [.lit (.bool true)], args := [d1, d2] }
  | _ => none }
def fnExactFirstUnlikeRow : OpenClaim := { program := "ytjbjbdkmomkclab", sum := "7365f310166dddf33fd80c52f47bde13f0bef37a4cd7124feea873a1b12fbda8", func := "loop.example/g01340/laws.FnExactFirstUnlike", spec := "fnExactFirstUnlike", unfollowed := true, recurses := true, apart := false }
def FnExactFirstUnlikeSaid : Prop := fnExactFirstUnlikeRow.holds Try.pinned (OpenSpec.ofChange fnExactFirstUnlikeSpec)

/-- ITS FALSE NEIGHBOUR: 'it returns false'. Refute it at one input. -/
def fnExactFirstUnlikeWrong : ChangeSpec := { name := "fnExactFirstUnlike", fn := fun _ => fun
  | [d1, d2] => { results := [.lit (.bool false)], args := [d1, d2] }
  | _ => none }
def FnExactFirstUnlikeWrongFalsely : Prop := fnExactFirstUnlikeRow.holds Try.pinned (OpenSpec.ofChange fnExactFirstUnlikeWrong)

/-- 'laws.FnExactDepthsOf': WHATEVER THE INPUT: true; the input reads as it did. -/
def fnExactDepthsOfSpec : ChangeSpec := { name := "fnExactDepthsOf", fn := fun _ => fun
  | [d] => { results := [.lit (.bool true)], args := [d] }
  | _ => none }
def fnExactDepthsOfRow : OpenClaim := { program := "ytjbjbdkmomkclab", sum := "7365f310166dddf33fd80c52f47bde13f0bef37a4cd7124feea873a1b12fbda8", func := "loop.example/g01340/laws.FnExactDepthsOf", spec := "fnExactDepthsOf", unfollowed := true, recurses := true, apart := false }
def FnExactDepthsOfSaid : Prop := fnExactDepthsOfRow.holds Try.pinned (OpenSpec.ofChange fnExactDepthsOfSpec)

/-- ITS FALSE NEIGHBOUR: 'it returns false'. Refute it at one input. -/
def fnExactDepthsOfWrong : ChangeSpec := { name := "fnExactDepthsOf", fn := fun _ => fun
  | [d] => { results := [.lit (.bool false)], args := [d] }
  | _ => none }
def FnExactDepthsOfWrongFalsely : Prop := fnExactDepthsOfRow.holds Try.pinned (OpenSpec.ofChange fnExactDepthsOfWrong)

/-- 'laws.FnExactPagesLost': WHATEVER THE INPUT: true; the input reads as it did. -/
def fnExactPagesLostSpec : ChangeSpec := { name := "fnExactPagesLost", fn := fun _ => fun
  | [d1, d2] => { results := [.lit (.bool true)], args := [d1, d2] }
  | _ => none }
def fnExactPagesLostRow : OpenClaim := { program := "ytjbjbdkmomkclab", sum := "7365f310166dddf33fd80c52f47bde13f0bef37a4cd7124feea873a1b12fbda8", func := "loop.example/g01340/laws.FnExactPagesLost", spec := "fnExactPagesLost", apart := false }
def FnExactPagesLostSaid : Prop := fnExactPagesLostRow.holds Try.pinned (OpenSpec.ofChange fnExactPagesLostSpec)

/-- ITS FALSE NEIGHBOUR: 'it returns false'. Refute it at one input. -/
def fnExactPagesLostWrong : ChangeSpec := { name := "fnExactPagesLost", fn := fun _ => fun
  | [d1, d2] => { results := [.lit (.bool false)], args := [d1, d2] }
  | _ => none }
def FnExactPagesLostWrongFalsely : Prop := fnExactPagesLostRow.holds Try.pinned (OpenSpec.ofChange fnExactPagesLostWrong)

/-- 'laws.FnExactRaiseLayer': WHATEVER THE INPUT: true; the input reads as it did. -/
def fnExactRaiseLayerSpec : ChangeSpec := { name := "fnExactRaiseLayer", fn := fun _ => fun
  | [d1, d2] => { results := [.lit (.bool true)], args := [d1, d2] }
  | _ => none }
def fnExactRaiseLayerRow : OpenClaim := { program := "ytjbjbdkmomkclab", sum := "7365f310166dddf33fd80c52f47bde13f0bef37a4cd7124feea873a1b12fbda8", func := "loop.example/g01340/laws.FnExactRaiseLayer", spec := "fnExactRaiseLayer", apart := false }
def FnExactRaiseLayerSaid : Prop := fnExactRaiseLayerRow.holds Try.pinned (OpenSpec.ofChange fnExactRaiseLayerSpec)

/-- ITS FALSE NEIGHBOUR: 'it returns false'. Refute it at one input. -/
def fnExactRaiseLayerWrong : ChangeSpec := { name := "fnExactRaiseLayer", fn := fun _ => fun
  | [d1, d2] => { results := [.lit (.bool false)], args := [d1, d2] }
  | _ => none }
def FnExactRaiseLayerWrongFalsely : Prop := fnExactRaiseLayerRow.holds Try.pinned (OpenSpec.ofChange fnExactRaiseLayerWrong)

/-- 'laws.FnExactAddLayer': WHATEVER THE INPUT: true; the input reads as it did. -/
def fnExactAddLayerSpec : ChangeSpec := { name := "fnExactAddLayer", fn := fun _ => fun
  | [d1, d2] => { results := [.lit (.bool true)], args := [d1, d2] }
  | _ => none }
def fnExactAddLayerRow : OpenClaim := { program := "ytjbjbdkmomkclab", sum := "7365f310166dddf33fd80c52f47bde13f0bef37a4cd7124feea873a1b12fbda8", func := "loop.example/g01340/laws.FnExactAddLayer", spec := "fnExactAddLayer", unfollowed := true, recurses := true, apart := false }
def FnExactAddLayerSaid : Prop := fnExactAddLayerRow.holds Try.pinned (OpenSpec.ofChange fnExactAddLayerSpec)

/-- ITS FALSE NEIGHBOUR: 'it returns false'. Refute it at one input. -/
def fnExactAddLayerWrong : ChangeSpec := { name := "fnExactAddLayer", fn := fun _ => fun
  | [d1, d2] => { results := [.lit (.bool false)], args := [d1, d2] }
  | _ => none }
def FnExactAddLayerWrongFalsely : Prop := fnExactAddLayerRow.holds Try.pinned (OpenSpec.ofChange fnExactAddLayerWrong)

/-- 'laws.FnExactDropLayer': WHATEVER THE INPUT: true; the input reads as it did. -/
def fnExactDropLayerSpec : ChangeSpec := { name := "fnExactDropLayer", fn := fun _ => fun
  | [d1, d2] => { results := [.lit (.bool true)], args := [d1, d2] }
  | _ => none }
def fnExactDropLayerRow : OpenClaim := { program := "ytjbjbdkmomkclab", sum := "7365f310166dddf33fd80c52f47bde13f0bef37a4cd7124feea873a1b12fbda8", func := "loop.example/g01340/laws.FnExactDropLayer", spec := "fnExactDropLayer", apart := false }
def FnExactDropLayerSaid : Prop := fnExactDropLayerRow.holds Try.pinned (OpenSpec.ofChange fnExactDropLayerSpec)

/-- ITS FALSE NEIGHBOUR: 'it returns false'. Refute it at one input. -/
def fnExactDropLayerWrong : ChangeSpec := { name := "fnExactDropLayer", fn := fun _ => fun
  | [d1, d2] => { results := [.lit (.bool false)], args := [d1, d2] }
  | _ => none }
def FnExactDropLayerWrongFalsely : Prop := fnExactDropLayerRow.holds Try.pinned (OpenSpec.ofChange fnExactDropLayerWrong)

/-- 'laws.FnExactCanSwap': WHATEVER THE INPUT: true; the input reads as it did. -/
def fnExactCanSwapSpec : ChangeSpec := { name := "fnExactCanSwap", fn := fun _ => fun
  | [d1, d2, d3, d4] => { results := [.lit (.bool true)], args := [d1, d2, d3, d4] }
  | _ => none }
def fnExactCanSwapRow : OpenClaim := { program := "ytjbjbdkmomkclab", sum := "7365f310166dddf33fd80c52f47bde13f0bef37a4cd7124feea873a1b12fbda8", func := "loop.example/g01340/laws.FnExactCanSwap", spec := "fnExactCanSwap", unfollowed := true, recurses := true, apart := false }
def FnExactCanSwapSaid : Prop := fnExactCanSwapRow.holds Try.pinned (OpenSpec.ofChange fnExactCanSwapSpec)

/-- ITS FALSE NEIGHBOUR: 'it returns false'. Refute it at one input. -/
def fnExactCanSwapWrong : ChangeSpec := { name := "fnExactCanSwap", fn := fun _ => fun
  | [d1, d2, d3, d4] => { results := [.lit (.bool false)], args := [d1, d2, d3, d4] }
  | _ => none }
def FnExactCanSwapWrongFalsely : Prop := fnExactCanSwapRow.holds Try.pinned (OpenSpec.ofChange fnExactCanSwapWrong)

/- THE SECOND FORM. 'bulk': how many values and letters a reading holds, each counted each time it is reached (what is shared counts as often as it is met; a slice's spare places count too). A statement '..UptoSaid' is the law's where the arguments, and the package variables that the reading takes, are together of bulk at most 1048576: NARROWER than '..Said'. Prove '..Said' where nothing that the law and all that it calls make is longer than what came in: it says more and counts as full. Else prove '..UptoSaid'. A law counts once. -/
mutual
def uptoBulk {H : Type} : DataW H → Nat
  | .lit (.string bytes) => bytes.length + 1
  | .lit _ => 1
  | .nil => 1
  | .ptr d => uptoBulk d + 1
  | .slice elems spare => uptoBulkAll elems + uptoBulkAll spare + 1
  | .agg parts => uptoBulkAll parts + 1
  | .iface _ d => uptoBulk d + 1
  | .map entries => uptoBulkEntries entries + 1
  | .held _ => 1
def uptoBulkAll {H : Type} : List (DataW H) → Nat
  | [] => 0
  | d :: r => uptoBulk d + uptoBulkAll r
def uptoBulkEntries {H : Type} : List (Lit × DataW H) → Nat
  | [] => 0
  | x :: r => uptoBulkEntry x + uptoBulkEntries r
def uptoBulkEntry {H : Type} : Lit × DataW H → Nat
  | (.string bytes, d) => bytes.length + uptoBulk d + 1
  | (_, d) => uptoBulk d + 1
 end
def uptoSmall : (H : Type) → List (DataW H) → Bool := fun _ ds => decide (uptoBulkAll ds ≤ 1048576)
def OpenSpec.upto (s : _root_.Go.ChangeSpec) : _root_.Go.OpenSpec := { _root_.Go.OpenSpec.ofChange s with cond := some uptoSmall }

/-- 'laws.FnExactCheckSteps', WHERE WHAT IT READS IS OF BULK AT MOST 1048576: true; the input reads as it did. -/
def fnExactCheckStepsUptoRow : OpenClaim := { program := "ytjbjbdkmomkclab", sum := "7365f310166dddf33fd80c52f47bde13f0bef37a4cd7124feea873a1b12fbda8", func := "loop.example/g01340/laws.FnExactCheckSteps", spec := "fnExactCheckSteps", unfollowed := true, recurses := true, apart := false, narrowed := true }
def FnExactCheckStepsUptoSaid : Prop := fnExactCheckStepsUptoRow.holds Try.pinned (OpenSpec.upto fnExactCheckStepsSpec)

/-- 'laws.FnExactFirstUnlike', WHERE WHAT IT READS IS OF BULK AT MOST 1048576: true; the input reads as it did. -/
def fnExactFirstUnlikeUptoRow : OpenClaim := { program := "ytjbjbdkmomkclab", sum := "7365f310166dddf33fd80c52f47bde13f0bef37a4cd7124feea873a1b12fbda8", func := "loop.example/g01340/laws.FnExactFirstUnlike", spec := "fnExactFirstUnlike", unfollowed := true, recurses := true, apart := false, narrowed := true }
def FnExactFirstUnlikeUptoSaid : Prop := fnExactFirstUnlikeUptoRow.holds Try.pinned (OpenSpec.upto fnExactFirstUnlikeSpec)

/-- 'laws.FnExactDepthsOf', WHERE WHAT IT READS IS OF BULK AT MOST 1048576: true; the input reads as it did. -/
def fnExactDepthsOfUptoRow : OpenClaim := { program := "ytjbjbdkmomkclab", sum := "7365f310166dddf33fd80c52f47bde13f0bef37a4cd7124feea873a1b12fbda8", func := "loop.example/g01340/laws.FnExactDepthsOf", spec := "fnExactDepthsOf", unfollowed := true, recurses := true, apart := false, narrowed := true }
def FnExactDepthsOfUptoSaid : Prop := fnExactDepthsOfUptoRow.holds Try.pinned (OpenSpec.upto fnExactDepthsOfSpec)

/-- 'laws.FnExactPagesLost', WHERE WHAT IT READS IS OF BULK AT MOST 1048576: true; the input reads as it did. -/
def fnExactPagesLostUptoRow : OpenClaim := { program := "ytjbjbdkmomkclab", sum := "7365f310166dddf33fd80c52f47bde13f0bef37a4cd7124feea873a1b12fbda8", func := "loop.example/g01340/laws.FnExactPagesLost", spec := "fnExactPagesLost", apart := false, narrowed := true }
def FnExactPagesLostUptoSaid : Prop := fnExactPagesLostUptoRow.holds Try.pinned (OpenSpec.upto fnExactPagesLostSpec)

/-- 'laws.FnExactRaiseLayer', WHERE WHAT IT READS IS OF BULK AT MOST 1048576: true; the input reads as it did. -/
def fnExactRaiseLayerUptoRow : OpenClaim := { program := "ytjbjbdkmomkclab", sum := "7365f310166dddf33fd80c52f47bde13f0bef37a4cd7124feea873a1b12fbda8", func := "loop.example/g01340/laws.FnExactRaiseLayer", spec := "fnExactRaiseLayer", apart := false, narrowed := true }
def FnExactRaiseLayerUptoSaid : Prop := fnExactRaiseLayerUptoRow.holds Try.pinned (OpenSpec.upto fnExactRaiseLayerSpec)

/-- 'laws.FnExactAddLayer', WHERE WHAT IT READS IS OF BULK AT MOST 1048576: true; the input reads as it did. -/
def fnExactAddLayerUptoRow : OpenClaim := { program := "ytjbjbdkmomkclab", sum := "7365f310166dddf33fd80c52f47bde13f0bef37a4cd7124feea873a1b12fbda8", func := "loop.example/g01340/laws.FnExactAddLayer", spec := "fnExactAddLayer", unfollowed := true, recurses := true, apart := false, narrowed := true }
def FnExactAddLayerUptoSaid : Prop := fnExactAddLayerUptoRow.holds Try.pinned (OpenSpec.upto fnExactAddLayerSpec)

/-- 'laws.FnExactDropLayer', WHERE WHAT IT READS IS OF BULK AT MOST 1048576: true; the input reads as it did. -/
def fnExactDropLayerUptoRow : OpenClaim := { program := "ytjbjbdkmomkclab", sum := "7365f310166dddf33fd80c52f47bde13f0bef37a4cd7124feea873a1b12fbda8", func := "loop.example/g01340/laws.FnExactDropLayer", spec := "fnExactDropLayer", apart := false, narrowed := true }
def FnExactDropLayerUptoSaid : Prop := fnExactDropLayerUptoRow.holds Try.pinned (OpenSpec.upto fnExactDropLayerSpec)

/-- 'laws.FnExactCanSwap', WHERE WHAT IT READS IS OF BULK AT MOST 1048576: true; the input reads as it did. -/
def fnExactCanSwapUptoRow : OpenClaim := { program := "ytjbjbdkmomkclab", sum := "7365f310166dddf33fd80c52f47bde13f0bef37a4cd7124feea873a1b12fbda8", func := "loop.example/g01340/laws.FnExactCanSwap", spec := "fnExactCanSwap", unfollowed := true, recurses := true, apart := false, narrowed := true }
def FnExactCanSwapUptoSaid : Prop := fnExactCanSwapUptoRow.holds Try.pinned (OpenSpec.upto fnExactCanSwapSpec)

end Rows
end Go.Proofs.Ytjbjbdkmomkclab
