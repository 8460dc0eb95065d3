/-
  DERIVED. GIVEN WITH THE SEED: THE CARDS: each row of YtemeamamdddfnabDoorRows.lean that lists a variable, with what it lists TIED to the program's text (the seventh form; the later family's looks); each row that meets fmt, with fmt's text TOLD by the authors' own Lean function (tested against real Go, not proved from fmt's source: count such statements apart). THE CARD IS WHAT COUNTS. Prove the row's statement (the work); the ties are given (YtemeamamdddfnabDoorTie.lean); close each card by the builder's one call (the guide's Derived/Test/ToyasCard.lean, 'card_holds'). Laid BY PROGRAM, IN A SANDBOX (cutbox-door.mjs). By AI agents, Wed Nov 11 2026. No macro, syntax, notation, axiom, sorry.
-/
import Derived.Test.YtemeamamdddfnabDoorRows
import GoSem.ClaimSeven
namespace Go.Proofs.YtemeamamdddfnabDoor
namespace Rows

/-- THE TIED CARD OF 'laws.FnExactInvertFrame'. -/
def fnExactInvertFrameCard : Claim7 := { stood := { row := fnExactInvertFrameRow, standIns := [], harness := (true, "9f933ff1c6ca9cd2bd6045c6b5252085f8978144b0bd6641da8af96855c01f6c"), looks := false }, kinds := [], alts := [], laidByText := true, laidKinds := [.data, .data], laidTests := true, laidLooks := .later }
def FnExactInvertFrameCardSaid : Prop := Claim7.holds Tryd.pinned (.plain (OpenSpec.ofChange fnExactInvertFrameSpec)) fnExactInvertFrameCard

/-- THE TIED CARD OF 'laws.FnExactBoxOf'. -/
def fnExactBoxOfCard : Claim7 := { stood := { row := fnExactBoxOfRow, standIns := [], harness := (true, "9f933ff1c6ca9cd2bd6045c6b5252085f8978144b0bd6641da8af96855c01f6c"), looks := false }, kinds := [], alts := [], laidByText := true, laidKinds := [.data], laidTests := true, laidLooks := .later }
def FnExactBoxOfCardSaid : Prop := Claim7.holds Tryd.pinned (.plain (OpenSpec.ofChange fnExactBoxOfSpec)) fnExactBoxOfCard

/-- THE TIED CARD OF 'laws.FnExactBlobAt'. -/
def fnExactBlobAtCard : Claim7 := { stood := { row := fnExactBlobAtRow, standIns := [], harness := (true, "9f933ff1c6ca9cd2bd6045c6b5252085f8978144b0bd6641da8af96855c01f6c"), looks := false }, kinds := [], alts := [], laidByText := true, laidKinds := [.data], laidTests := true, laidLooks := .later }
def FnExactBlobAtCardSaid : Prop := Claim7.holds Tryd.pinned (.plain (OpenSpec.ofChange fnExactBlobAtSpec)) fnExactBlobAtCard

/-- THE TIED CARD OF 'laws.FnExactBlobsOf'. -/
def fnExactBlobsOfCard : Claim7 := { stood := { row := fnExactBlobsOfRow, standIns := [], harness := (true, "9f933ff1c6ca9cd2bd6045c6b5252085f8978144b0bd6641da8af96855c01f6c"), looks := false }, kinds := [], alts := [], laidByText := true, laidKinds := [.data, .data], laidTests := true, laidLooks := .later }
def FnExactBlobsOfCardSaid : Prop := Claim7.holds Tryd.pinned (.plain (OpenSpec.ofChange fnExactBlobsOfSpec)) fnExactBlobsOfCard

/-- THE TIED CARD OF 'laws.FnExactGrowFrame'. -/
def fnExactGrowFrameCard : Claim7 := { stood := { row := fnExactGrowFrameRow, standIns := [], harness := (true, "9f933ff1c6ca9cd2bd6045c6b5252085f8978144b0bd6641da8af96855c01f6c"), looks := false }, kinds := [], alts := [], laidByText := true, laidKinds := [.data, .data], laidTests := true, laidLooks := .later }
def FnExactGrowFrameCardSaid : Prop := Claim7.holds Tryd.pinned (.plain (OpenSpec.ofChange fnExactGrowFrameSpec)) fnExactGrowFrameCard

/-- THE TIED CARD OF 'laws.FnExactShrinkFrame'. -/
def fnExactShrinkFrameCard : Claim7 := { stood := { row := fnExactShrinkFrameRow, standIns := [], harness := (true, "9f933ff1c6ca9cd2bd6045c6b5252085f8978144b0bd6641da8af96855c01f6c"), looks := false }, kinds := [], alts := [], laidByText := true, laidKinds := [.data, .data], laidTests := true, laidLooks := .later }
def FnExactShrinkFrameCardSaid : Prop := Claim7.holds Tryd.pinned (.plain (OpenSpec.ofChange fnExactShrinkFrameSpec)) fnExactShrinkFrameCard

/-- THE SECOND FORM's CARD OF 'laws.FnExactInvertFrame'. -/
def fnExactInvertFrameUptoCard : Claim7 := { stood := { row := fnExactInvertFrameUptoRow, standIns := [], harness := (true, "9f933ff1c6ca9cd2bd6045c6b5252085f8978144b0bd6641da8af96855c01f6c"), looks := false }, kinds := [], alts := [], laidByText := true, laidKinds := [.data, .data], laidTests := true, laidLooks := .later }
def FnExactInvertFrameUptoCardSaid : Prop := Claim7.holds Tryd.pinned (.plain (OpenSpec.upto fnExactInvertFrameSpec)) fnExactInvertFrameUptoCard

/-- THE SECOND FORM's CARD OF 'laws.FnExactBoxOf'. -/
def fnExactBoxOfUptoCard : Claim7 := { stood := { row := fnExactBoxOfUptoRow, standIns := [], harness := (true, "9f933ff1c6ca9cd2bd6045c6b5252085f8978144b0bd6641da8af96855c01f6c"), looks := false }, kinds := [], alts := [], laidByText := true, laidKinds := [.data], laidTests := true, laidLooks := .later }
def FnExactBoxOfUptoCardSaid : Prop := Claim7.holds Tryd.pinned (.plain (OpenSpec.upto fnExactBoxOfSpec)) fnExactBoxOfUptoCard

/-- THE SECOND FORM's CARD OF 'laws.FnExactBlobAt'. -/
def fnExactBlobAtUptoCard : Claim7 := { stood := { row := fnExactBlobAtUptoRow, standIns := [], harness := (true, "9f933ff1c6ca9cd2bd6045c6b5252085f8978144b0bd6641da8af96855c01f6c"), looks := false }, kinds := [], alts := [], laidByText := true, laidKinds := [.data], laidTests := true, laidLooks := .later }
def FnExactBlobAtUptoCardSaid : Prop := Claim7.holds Tryd.pinned (.plain (OpenSpec.upto fnExactBlobAtSpec)) fnExactBlobAtUptoCard

/-- THE SECOND FORM's CARD OF 'laws.FnExactBlobsOf'. -/
def fnExactBlobsOfUptoCard : Claim7 := { stood := { row := fnExactBlobsOfUptoRow, standIns := [], harness := (true, "9f933ff1c6ca9cd2bd6045c6b5252085f8978144b0bd6641da8af96855c01f6c"), looks := false }, kinds := [], alts := [], laidByText := true, laidKinds := [.data, .data], laidTests := true, laidLooks := .later }
def FnExactBlobsOfUptoCardSaid : Prop := Claim7.holds Tryd.pinned (.plain (OpenSpec.upto fnExactBlobsOfSpec)) fnExactBlobsOfUptoCard

/-- THE SECOND FORM's CARD OF 'laws.FnExactGrowFrame'. -/
def fnExactGrowFrameUptoCard : Claim7 := { stood := { row := fnExactGrowFrameUptoRow, standIns := [], harness := (true, "9f933ff1c6ca9cd2bd6045c6b5252085f8978144b0bd6641da8af96855c01f6c"), looks := false }, kinds := [], alts := [], laidByText := true, laidKinds := [.data, .data], laidTests := true, laidLooks := .later }
def FnExactGrowFrameUptoCardSaid : Prop := Claim7.holds Tryd.pinned (.plain (OpenSpec.upto fnExactGrowFrameSpec)) fnExactGrowFrameUptoCard

/-- THE SECOND FORM's CARD OF 'laws.FnExactShrinkFrame'. -/
def fnExactShrinkFrameUptoCard : Claim7 := { stood := { row := fnExactShrinkFrameUptoRow, standIns := [], harness := (true, "9f933ff1c6ca9cd2bd6045c6b5252085f8978144b0bd6641da8af96855c01f6c"), looks := false }, kinds := [], alts := [], laidByText := true, laidKinds := [.data, .data], laidTests := true, laidLooks := .later }
def FnExactShrinkFrameUptoCardSaid : Prop := Claim7.holds Tryd.pinned (.plain (OpenSpec.upto fnExactShrinkFrameSpec)) fnExactShrinkFrameUptoCard
end Rows
end Go.Proofs.YtemeamamdddfnabDoor
