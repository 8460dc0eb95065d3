/-
  DERIVED. GIVEN WITH THE SEED: THE CARDS: each row of YthkpefdjhdemeaaDoorRows.lean that lists a variable, with what it lists TIED to the program's text (the seventh form; the later family's looks); each row that meets fmt, with fmt's text TOLD by the authors' own Lean function (tested against real Go, not proved from fmt's source: count such statements apart). THE CARD IS WHAT COUNTS. Prove the row's statement (the work); the ties are given (YthkpefdjhdemeaaDoorTie.lean); close each card by the builder's one call (the guide's Derived/Test/ToyasCard.lean, 'card_holds'). Laid BY PROGRAM, IN A SANDBOX (cutbox-door.mjs). By AI agents, Wed Nov 11 2026. No macro, syntax, notation, axiom, sorry.
-/
import Derived.Test.YthkpefdjhdemeaaDoorRows
import GoSem.ClaimSeven
namespace Go.Proofs.YthkpefdjhdemeaaDoor
namespace Rows

/-- THE TIED CARD OF 'laws.FnExactDotsOf'. -/
def fnExactDotsOfCard : Claim7 := { stood := { row := fnExactDotsOfRow, standIns := [], harness := (true, "e38fdc83a0396caf14962edfb2bb6893a7c7401f2949268393be2bdec0d537dc"), looks := false }, kinds := [], alts := [], laidByText := true, laidKinds := [.data], laidTests := true, laidLooks := .later }
def FnExactDotsOfCardSaid : Prop := Claim7.holds Tryd.pinned (.plain (OpenSpec.ofChange fnExactDotsOfSpec)) fnExactDotsOfCard

/-- THE TIED CARD OF 'laws.FnExactTurnFrame'. -/
def fnExactTurnFrameCard : Claim7 := { stood := { row := fnExactTurnFrameRow, standIns := [], harness := (true, "e38fdc83a0396caf14962edfb2bb6893a7c7401f2949268393be2bdec0d537dc"), looks := false }, kinds := [], alts := [], laidByText := true, laidKinds := [.data, .data], laidTests := true, laidLooks := .later }
def FnExactTurnFrameCardSaid : Prop := Claim7.holds Tryd.pinned (.plain (OpenSpec.ofChange fnExactTurnFrameSpec)) fnExactTurnFrameCard

/-- THE TIED CARD OF 'laws.FnExactBoxOf'. -/
def fnExactBoxOfCard : Claim7 := { stood := { row := fnExactBoxOfRow, standIns := [], harness := (true, "e38fdc83a0396caf14962edfb2bb6893a7c7401f2949268393be2bdec0d537dc"), looks := false }, kinds := [], alts := [], laidByText := true, laidKinds := [.data], laidTests := true, laidLooks := .later }
def FnExactBoxOfCardSaid : Prop := Claim7.holds Tryd.pinned (.plain (OpenSpec.ofChange fnExactBoxOfSpec)) fnExactBoxOfCard

/-- THE TIED CARD OF 'laws.FnExactBlobAt'. -/
def fnExactBlobAtCard : Claim7 := { stood := { row := fnExactBlobAtRow, standIns := [], harness := (true, "e38fdc83a0396caf14962edfb2bb6893a7c7401f2949268393be2bdec0d537dc"), looks := false }, kinds := [], alts := [], laidByText := true, laidKinds := [.data], laidTests := true, laidLooks := .later }
def FnExactBlobAtCardSaid : Prop := Claim7.holds Tryd.pinned (.plain (OpenSpec.ofChange fnExactBlobAtSpec)) fnExactBlobAtCard

/-- THE TIED CARD OF 'laws.FnExactBlobsOf'. -/
def fnExactBlobsOfCard : Claim7 := { stood := { row := fnExactBlobsOfRow, standIns := [], harness := (true, "e38fdc83a0396caf14962edfb2bb6893a7c7401f2949268393be2bdec0d537dc"), looks := false }, kinds := [], alts := [], laidByText := true, laidKinds := [.data, .data], laidTests := true, laidLooks := .later }
def FnExactBlobsOfCardSaid : Prop := Claim7.holds Tryd.pinned (.plain (OpenSpec.ofChange fnExactBlobsOfSpec)) fnExactBlobsOfCard

/-- THE TIED CARD OF 'laws.FnExactGrowFrame'. -/
def fnExactGrowFrameCard : Claim7 := { stood := { row := fnExactGrowFrameRow, standIns := [], harness := (true, "e38fdc83a0396caf14962edfb2bb6893a7c7401f2949268393be2bdec0d537dc"), looks := false }, kinds := [], alts := [], laidByText := true, laidKinds := [.data, .data], laidTests := true, laidLooks := .later }
def FnExactGrowFrameCardSaid : Prop := Claim7.holds Tryd.pinned (.plain (OpenSpec.ofChange fnExactGrowFrameSpec)) fnExactGrowFrameCard

/-- THE TIED CARD OF 'laws.FnExactShrinkFrame'. -/
def fnExactShrinkFrameCard : Claim7 := { stood := { row := fnExactShrinkFrameRow, standIns := [], harness := (true, "e38fdc83a0396caf14962edfb2bb6893a7c7401f2949268393be2bdec0d537dc"), looks := false }, kinds := [], alts := [], laidByText := true, laidKinds := [.data, .data], laidTests := true, laidLooks := .later }
def FnExactShrinkFrameCardSaid : Prop := Claim7.holds Tryd.pinned (.plain (OpenSpec.ofChange fnExactShrinkFrameSpec)) fnExactShrinkFrameCard

/-- THE TIED CARD OF 'laws.FnFrames'. -/
def fnFramesCard : Claim7 := { stood := { row := fnFramesRow, standIns := [], harness := (true, "e38fdc83a0396caf14962edfb2bb6893a7c7401f2949268393be2bdec0d537dc"), looks := false }, kinds := [], alts := [], laidByText := true, laidKinds := [.data, .data], laidTests := true, laidLooks := .later }
def FnFramesCardSaid : Prop := Claim7.holds Tryd.pinned (.plain (OpenSpec.ofChange fnFramesSpec)) fnFramesCard

/-- THE TIED CARD OF 'laws.FnBlobs'. -/
def fnBlobsCard : Claim7 := { stood := { row := fnBlobsRow, standIns := [], harness := (true, "e38fdc83a0396caf14962edfb2bb6893a7c7401f2949268393be2bdec0d537dc"), looks := false }, kinds := [], alts := [], laidByText := true, laidKinds := [.data, .data], laidTests := true, laidLooks := .later }
def FnBlobsCardSaid : Prop := Claim7.holds Tryd.pinned (.plain (OpenSpec.ofChange fnBlobsSpec)) fnBlobsCard

/-- THE SECOND FORM's CARD OF 'laws.FnExactDotsOf'. -/
def fnExactDotsOfUptoCard : Claim7 := { stood := { row := fnExactDotsOfUptoRow, standIns := [], harness := (true, "e38fdc83a0396caf14962edfb2bb6893a7c7401f2949268393be2bdec0d537dc"), looks := false }, kinds := [], alts := [], laidByText := true, laidKinds := [.data], laidTests := true, laidLooks := .later }
def FnExactDotsOfUptoCardSaid : Prop := Claim7.holds Tryd.pinned (.plain (OpenSpec.upto fnExactDotsOfSpec)) fnExactDotsOfUptoCard

/-- THE SECOND FORM's CARD OF 'laws.FnExactTurnFrame'. -/
def fnExactTurnFrameUptoCard : Claim7 := { stood := { row := fnExactTurnFrameUptoRow, standIns := [], harness := (true, "e38fdc83a0396caf14962edfb2bb6893a7c7401f2949268393be2bdec0d537dc"), looks := false }, kinds := [], alts := [], laidByText := true, laidKinds := [.data, .data], laidTests := true, laidLooks := .later }
def FnExactTurnFrameUptoCardSaid : Prop := Claim7.holds Tryd.pinned (.plain (OpenSpec.upto fnExactTurnFrameSpec)) fnExactTurnFrameUptoCard

/-- THE SECOND FORM's CARD OF 'laws.FnExactBoxOf'. -/
def fnExactBoxOfUptoCard : Claim7 := { stood := { row := fnExactBoxOfUptoRow, standIns := [], harness := (true, "e38fdc83a0396caf14962edfb2bb6893a7c7401f2949268393be2bdec0d537dc"), looks := false }, kinds := [], alts := [], laidByText := true, laidKinds := [.data], laidTests := true, laidLooks := .later }
def FnExactBoxOfUptoCardSaid : Prop := Claim7.holds Tryd.pinned (.plain (OpenSpec.upto fnExactBoxOfSpec)) fnExactBoxOfUptoCard

/-- THE SECOND FORM's CARD OF 'laws.FnExactBlobAt'. -/
def fnExactBlobAtUptoCard : Claim7 := { stood := { row := fnExactBlobAtUptoRow, standIns := [], harness := (true, "e38fdc83a0396caf14962edfb2bb6893a7c7401f2949268393be2bdec0d537dc"), looks := false }, kinds := [], alts := [], laidByText := true, laidKinds := [.data], laidTests := true, laidLooks := .later }
def FnExactBlobAtUptoCardSaid : Prop := Claim7.holds Tryd.pinned (.plain (OpenSpec.upto fnExactBlobAtSpec)) fnExactBlobAtUptoCard

/-- THE SECOND FORM's CARD OF 'laws.FnExactBlobsOf'. -/
def fnExactBlobsOfUptoCard : Claim7 := { stood := { row := fnExactBlobsOfUptoRow, standIns := [], harness := (true, "e38fdc83a0396caf14962edfb2bb6893a7c7401f2949268393be2bdec0d537dc"), looks := false }, kinds := [], alts := [], laidByText := true, laidKinds := [.data, .data], laidTests := true, laidLooks := .later }
def FnExactBlobsOfUptoCardSaid : Prop := Claim7.holds Tryd.pinned (.plain (OpenSpec.upto fnExactBlobsOfSpec)) fnExactBlobsOfUptoCard

/-- THE SECOND FORM's CARD OF 'laws.FnExactGrowFrame'. -/
def fnExactGrowFrameUptoCard : Claim7 := { stood := { row := fnExactGrowFrameUptoRow, standIns := [], harness := (true, "e38fdc83a0396caf14962edfb2bb6893a7c7401f2949268393be2bdec0d537dc"), looks := false }, kinds := [], alts := [], laidByText := true, laidKinds := [.data, .data], laidTests := true, laidLooks := .later }
def FnExactGrowFrameUptoCardSaid : Prop := Claim7.holds Tryd.pinned (.plain (OpenSpec.upto fnExactGrowFrameSpec)) fnExactGrowFrameUptoCard

/-- THE SECOND FORM's CARD OF 'laws.FnExactShrinkFrame'. -/
def fnExactShrinkFrameUptoCard : Claim7 := { stood := { row := fnExactShrinkFrameUptoRow, standIns := [], harness := (true, "e38fdc83a0396caf14962edfb2bb6893a7c7401f2949268393be2bdec0d537dc"), looks := false }, kinds := [], alts := [], laidByText := true, laidKinds := [.data, .data], laidTests := true, laidLooks := .later }
def FnExactShrinkFrameUptoCardSaid : Prop := Claim7.holds Tryd.pinned (.plain (OpenSpec.upto fnExactShrinkFrameSpec)) fnExactShrinkFrameUptoCard

/-- THE SECOND FORM's CARD OF 'laws.FnFrames'. -/
def fnFramesUptoCard : Claim7 := { stood := { row := fnFramesUptoRow, standIns := [], harness := (true, "e38fdc83a0396caf14962edfb2bb6893a7c7401f2949268393be2bdec0d537dc"), looks := false }, kinds := [], alts := [], laidByText := true, laidKinds := [.data, .data], laidTests := true, laidLooks := .later }
def FnFramesUptoCardSaid : Prop := Claim7.holds Tryd.pinned (.plain (OpenSpec.upto fnFramesSpec)) fnFramesUptoCard

/-- THE SECOND FORM's CARD OF 'laws.FnBlobs'. -/
def fnBlobsUptoCard : Claim7 := { stood := { row := fnBlobsUptoRow, standIns := [], harness := (true, "e38fdc83a0396caf14962edfb2bb6893a7c7401f2949268393be2bdec0d537dc"), looks := false }, kinds := [], alts := [], laidByText := true, laidKinds := [.data, .data], laidTests := true, laidLooks := .later }
def FnBlobsUptoCardSaid : Prop := Claim7.holds Tryd.pinned (.plain (OpenSpec.upto fnBlobsSpec)) fnBlobsUptoCard
end Rows
end Go.Proofs.YthkpefdjhdemeaaDoor
