/-
  DERIVED. GIVEN WITH THE SEED: THE CARDS: each row of YtemeamamdddfnaaDoorRows.lean that lists a variable, with what it lists TIED to the program's text (the seventh form; the later family's looks); each row that meets fmt, with fmt's text TOLD by the authors' own Lean function (tested against real Go, not proved from fmt's source: count such statements apart). THE CARD IS WHAT COUNTS. Prove the row's statement (the work); the ties are given (YtemeamamdddfnaaDoorTie.lean); close each card by the builder's one call (the guide's Derived/Test/ToyasCard.lean, 'card_holds'). Laid BY PROGRAM, IN A SANDBOX (cutbox-door.mjs). By AI agents, Wed Nov 11 2026. No macro, syntax, notation, axiom, sorry.
-/
import Derived.Test.YtemeamamdddfnaaDoorRows
import GoSem.ClaimSeven
namespace Go.Proofs.YtemeamamdddfnaaDoor
namespace Rows

/-- THE TIED CARD OF 'laws.FnExactDotsOf'. -/
def fnExactDotsOfCard : Claim7 := { stood := { row := fnExactDotsOfRow, standIns := [], harness := (true, "fd1e9854e0d567f2a7ba122f0c5ca14dc2e295ca17416081bc04b3b5e68ab4f5"), looks := false }, kinds := [], alts := [], laidByText := true, laidKinds := [.data], laidTests := true, laidLooks := .later }
def FnExactDotsOfCardSaid : Prop := Claim7.holds Tryd.pinned (.plain (OpenSpec.ofChange fnExactDotsOfSpec)) fnExactDotsOfCard

/-- THE TIED CARD OF 'laws.FnExactTurnFrame'. -/
def fnExactTurnFrameCard : Claim7 := { stood := { row := fnExactTurnFrameRow, standIns := [], harness := (true, "fd1e9854e0d567f2a7ba122f0c5ca14dc2e295ca17416081bc04b3b5e68ab4f5"), looks := false }, kinds := [], alts := [], laidByText := true, laidKinds := [.data, .data], laidTests := true, laidLooks := .later }
def FnExactTurnFrameCardSaid : Prop := Claim7.holds Tryd.pinned (.plain (OpenSpec.ofChange fnExactTurnFrameSpec)) fnExactTurnFrameCard

/-- THE TIED CARD OF 'laws.FnExactMirrorFrame'. -/
def fnExactMirrorFrameCard : Claim7 := { stood := { row := fnExactMirrorFrameRow, standIns := [], harness := (true, "fd1e9854e0d567f2a7ba122f0c5ca14dc2e295ca17416081bc04b3b5e68ab4f5"), looks := false }, kinds := [], alts := [], laidByText := true, laidKinds := [.data, .data], laidTests := true, laidLooks := .later }
def FnExactMirrorFrameCardSaid : Prop := Claim7.holds Tryd.pinned (.plain (OpenSpec.ofChange fnExactMirrorFrameSpec)) fnExactMirrorFrameCard

/-- THE TIED CARD OF 'laws.FnExactFlipFrame'. -/
def fnExactFlipFrameCard : Claim7 := { stood := { row := fnExactFlipFrameRow, standIns := [], harness := (true, "fd1e9854e0d567f2a7ba122f0c5ca14dc2e295ca17416081bc04b3b5e68ab4f5"), looks := false }, kinds := [], alts := [], laidByText := true, laidKinds := [.data, .data], laidTests := true, laidLooks := .later }
def FnExactFlipFrameCardSaid : Prop := Claim7.holds Tryd.pinned (.plain (OpenSpec.ofChange fnExactFlipFrameSpec)) fnExactFlipFrameCard

/-- THE SECOND FORM's CARD OF 'laws.FnExactDotsOf'. -/
def fnExactDotsOfUptoCard : Claim7 := { stood := { row := fnExactDotsOfUptoRow, standIns := [], harness := (true, "fd1e9854e0d567f2a7ba122f0c5ca14dc2e295ca17416081bc04b3b5e68ab4f5"), looks := false }, kinds := [], alts := [], laidByText := true, laidKinds := [.data], laidTests := true, laidLooks := .later }
def FnExactDotsOfUptoCardSaid : Prop := Claim7.holds Tryd.pinned (.plain (OpenSpec.upto fnExactDotsOfSpec)) fnExactDotsOfUptoCard

/-- THE SECOND FORM's CARD OF 'laws.FnExactTurnFrame'. -/
def fnExactTurnFrameUptoCard : Claim7 := { stood := { row := fnExactTurnFrameUptoRow, standIns := [], harness := (true, "fd1e9854e0d567f2a7ba122f0c5ca14dc2e295ca17416081bc04b3b5e68ab4f5"), looks := false }, kinds := [], alts := [], laidByText := true, laidKinds := [.data, .data], laidTests := true, laidLooks := .later }
def FnExactTurnFrameUptoCardSaid : Prop := Claim7.holds Tryd.pinned (.plain (OpenSpec.upto fnExactTurnFrameSpec)) fnExactTurnFrameUptoCard

/-- THE SECOND FORM's CARD OF 'laws.FnExactMirrorFrame'. -/
def fnExactMirrorFrameUptoCard : Claim7 := { stood := { row := fnExactMirrorFrameUptoRow, standIns := [], harness := (true, "fd1e9854e0d567f2a7ba122f0c5ca14dc2e295ca17416081bc04b3b5e68ab4f5"), looks := false }, kinds := [], alts := [], laidByText := true, laidKinds := [.data, .data], laidTests := true, laidLooks := .later }
def FnExactMirrorFrameUptoCardSaid : Prop := Claim7.holds Tryd.pinned (.plain (OpenSpec.upto fnExactMirrorFrameSpec)) fnExactMirrorFrameUptoCard

/-- THE SECOND FORM's CARD OF 'laws.FnExactFlipFrame'. -/
def fnExactFlipFrameUptoCard : Claim7 := { stood := { row := fnExactFlipFrameUptoRow, standIns := [], harness := (true, "fd1e9854e0d567f2a7ba122f0c5ca14dc2e295ca17416081bc04b3b5e68ab4f5"), looks := false }, kinds := [], alts := [], laidByText := true, laidKinds := [.data, .data], laidTests := true, laidLooks := .later }
def FnExactFlipFrameUptoCardSaid : Prop := Claim7.holds Tryd.pinned (.plain (OpenSpec.upto fnExactFlipFrameSpec)) fnExactFlipFrameUptoCard
end Rows
end Go.Proofs.YtemeamamdddfnaaDoor
