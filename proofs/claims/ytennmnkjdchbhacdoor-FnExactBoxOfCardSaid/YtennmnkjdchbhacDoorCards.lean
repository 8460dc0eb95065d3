/-
  DERIVED. GIVEN WITH THE SEED: THE CARDS: each row of YtennmnkjdchbhacDoorRows.lean that lists a variable, with what it lists TIED to the program's text (the seventh form; the later family's looks); each row that meets fmt, with fmt's text TOLD by the authors' own Lean function (tested against real Go, not proved from fmt's source: count such statements apart). THE CARD IS WHAT COUNTS. Prove the row's statement (the work); the ties are given (YtennmnkjdchbhacDoorTie.lean); close each card by the builder's one call (the guide's Derived/Test/ToyasCard.lean, 'card_holds'). Laid BY PROGRAM, IN A SANDBOX (cutbox-door.mjs). By AI agents, Wed Nov 11 2026. No macro, syntax, notation, axiom, sorry.
-/
import Derived.Test.YtennmnkjdchbhacDoorRows
import GoSem.ClaimSeven
namespace Go.Proofs.YtennmnkjdchbhacDoor
namespace Rows

/-- THE TIED CARD OF 'laws.FnExactReadOrder'. -/
def fnExactReadOrderCard : Claim7 := { stood := { row := fnExactReadOrderRow, standIns := [], harness := (true, "dca90c8f445e0921292a4427205409df0a742c28dcaa2d8306a348e6c59f1067"), looks := true }, kinds := [], alts := [], laidByText := true, laidKinds := [.data, .data, .data, .data, .sentinel, .sentinel, .pinned], laidTests := true, laidLooks := .later }
def FnExactReadOrderCardSaid : Prop := Claim7.holds Tryd.pinned (.plain (OpenSpec.ofChange fnExactReadOrderSpec)) fnExactReadOrderCard

/-- THE TIED CARD OF 'laws.FnExactDotsOf'. -/
def fnExactDotsOfCard : Claim7 := { stood := { row := fnExactDotsOfRow, standIns := [], harness := (true, "dca90c8f445e0921292a4427205409df0a742c28dcaa2d8306a348e6c59f1067"), looks := true }, kinds := [], alts := [], laidByText := true, laidKinds := [.data], laidTests := true, laidLooks := .later }
def FnExactDotsOfCardSaid : Prop := Claim7.holds Tryd.pinned (.plain (OpenSpec.ofChange fnExactDotsOfSpec)) fnExactDotsOfCard

/-- THE TIED CARD OF 'laws.FnExactTurnFrame'. -/
def fnExactTurnFrameCard : Claim7 := { stood := { row := fnExactTurnFrameRow, standIns := [], harness := (true, "dca90c8f445e0921292a4427205409df0a742c28dcaa2d8306a348e6c59f1067"), looks := true }, kinds := [], alts := [], laidByText := true, laidKinds := [.data, .data], laidTests := true, laidLooks := .later }
def FnExactTurnFrameCardSaid : Prop := Claim7.holds Tryd.pinned (.plain (OpenSpec.ofChange fnExactTurnFrameSpec)) fnExactTurnFrameCard

/-- THE TIED CARD OF 'laws.FnExactBoxOf'. -/
def fnExactBoxOfCard : Claim7 := { stood := { row := fnExactBoxOfRow, standIns := [], harness := (true, "dca90c8f445e0921292a4427205409df0a742c28dcaa2d8306a348e6c59f1067"), looks := true }, kinds := [], alts := [], laidByText := true, laidKinds := [.data], laidTests := true, laidLooks := .later }
def FnExactBoxOfCardSaid : Prop := Claim7.holds Tryd.pinned (.plain (OpenSpec.ofChange fnExactBoxOfSpec)) fnExactBoxOfCard

/-- THE TIED CARD OF 'laws.FnExactShrinkFrame'. -/
def fnExactShrinkFrameCard : Claim7 := { stood := { row := fnExactShrinkFrameRow, standIns := [], harness := (true, "dca90c8f445e0921292a4427205409df0a742c28dcaa2d8306a348e6c59f1067"), looks := true }, kinds := [], alts := [], laidByText := true, laidKinds := [.data, .data], laidTests := true, laidLooks := .later }
def FnExactShrinkFrameCardSaid : Prop := Claim7.holds Tryd.pinned (.plain (OpenSpec.ofChange fnExactShrinkFrameSpec)) fnExactShrinkFrameCard

/-- THE SECOND FORM's CARD OF 'laws.FnExactReadOrder'. -/
def fnExactReadOrderUptoCard : Claim7 := { stood := { row := fnExactReadOrderUptoRow, standIns := [], harness := (true, "dca90c8f445e0921292a4427205409df0a742c28dcaa2d8306a348e6c59f1067"), looks := true }, kinds := [], alts := [], laidByText := true, laidKinds := [.data, .data, .data, .data, .sentinel, .sentinel, .pinned], laidTests := true, laidLooks := .later }
def FnExactReadOrderUptoCardSaid : Prop := Claim7.holds Tryd.pinned (.plain (OpenSpec.upto fnExactReadOrderSpec)) fnExactReadOrderUptoCard

/-- THE SECOND FORM's CARD OF 'laws.FnExactDotsOf'. -/
def fnExactDotsOfUptoCard : Claim7 := { stood := { row := fnExactDotsOfUptoRow, standIns := [], harness := (true, "dca90c8f445e0921292a4427205409df0a742c28dcaa2d8306a348e6c59f1067"), looks := true }, kinds := [], alts := [], laidByText := true, laidKinds := [.data], laidTests := true, laidLooks := .later }
def FnExactDotsOfUptoCardSaid : Prop := Claim7.holds Tryd.pinned (.plain (OpenSpec.upto fnExactDotsOfSpec)) fnExactDotsOfUptoCard

/-- THE SECOND FORM's CARD OF 'laws.FnExactTurnFrame'. -/
def fnExactTurnFrameUptoCard : Claim7 := { stood := { row := fnExactTurnFrameUptoRow, standIns := [], harness := (true, "dca90c8f445e0921292a4427205409df0a742c28dcaa2d8306a348e6c59f1067"), looks := true }, kinds := [], alts := [], laidByText := true, laidKinds := [.data, .data], laidTests := true, laidLooks := .later }
def FnExactTurnFrameUptoCardSaid : Prop := Claim7.holds Tryd.pinned (.plain (OpenSpec.upto fnExactTurnFrameSpec)) fnExactTurnFrameUptoCard

/-- THE SECOND FORM's CARD OF 'laws.FnExactBoxOf'. -/
def fnExactBoxOfUptoCard : Claim7 := { stood := { row := fnExactBoxOfUptoRow, standIns := [], harness := (true, "dca90c8f445e0921292a4427205409df0a742c28dcaa2d8306a348e6c59f1067"), looks := true }, kinds := [], alts := [], laidByText := true, laidKinds := [.data], laidTests := true, laidLooks := .later }
def FnExactBoxOfUptoCardSaid : Prop := Claim7.holds Tryd.pinned (.plain (OpenSpec.upto fnExactBoxOfSpec)) fnExactBoxOfUptoCard

/-- THE SECOND FORM's CARD OF 'laws.FnExactShrinkFrame'. -/
def fnExactShrinkFrameUptoCard : Claim7 := { stood := { row := fnExactShrinkFrameUptoRow, standIns := [], harness := (true, "dca90c8f445e0921292a4427205409df0a742c28dcaa2d8306a348e6c59f1067"), looks := true }, kinds := [], alts := [], laidByText := true, laidKinds := [.data, .data], laidTests := true, laidLooks := .later }
def FnExactShrinkFrameUptoCardSaid : Prop := Claim7.holds Tryd.pinned (.plain (OpenSpec.upto fnExactShrinkFrameSpec)) fnExactShrinkFrameUptoCard
end Rows
end Go.Proofs.YtennmnkjdchbhacDoor
