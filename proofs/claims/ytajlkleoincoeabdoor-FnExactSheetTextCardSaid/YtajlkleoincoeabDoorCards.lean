/-
  DERIVED. GIVEN WITH THE SEED: THE CARDS: each row of YtajlkleoincoeabDoorRows.lean that lists a variable, with what it lists TIED to the program's text (the seventh form; the later family's looks); each row that meets fmt, with fmt's text TOLD by the authors' own Lean function (tested against real Go, not proved from fmt's source: count such statements apart). THE CARD IS WHAT COUNTS. Prove the row's statement (the work); the ties are given (YtajlkleoincoeabDoorTie.lean); close each card by the builder's one call (the guide's Derived/Test/ToyasCard.lean, 'card_holds'). Laid BY PROGRAM, IN A SANDBOX (cutbox-door.mjs). By AI agents, Wed Nov 11 2026. No macro, syntax, notation, axiom, sorry.
-/
import Derived.Test.YtajlkleoincoeabDoorRows
import GoSem.ClaimSeven
namespace Go.Proofs.YtajlkleoincoeabDoor
namespace Rows

/-- THE TIED CARD OF 'laws.FnExactOrderText'. -/
def fnExactOrderTextCard : Claim7 := { stood := { row := fnExactOrderTextRow, standIns := [], harness := (true, "8bfa3e465cefc5e1def5e3675076c0b525f7beae05400e34b5d5f7603f8028fc"), looks := true }, kinds := [], alts := [], laidByText := true, laidKinds := [.data, .data, .data], laidTests := true, laidLooks := .later }
def FnExactOrderTextCardSaid : Prop := Claim7.holds Tryd.pinned (.plain (OpenSpec.ofChange fnExactOrderTextSpec)) fnExactOrderTextCard

/-- THE TIED CARD OF 'laws.FnExactReadOrder'. -/
def fnExactReadOrderCard : Claim7 := { stood := { row := fnExactReadOrderRow, standIns := [], harness := (true, "8bfa3e465cefc5e1def5e3675076c0b525f7beae05400e34b5d5f7603f8028fc"), looks := true }, kinds := [], alts := [], laidByText := true, laidKinds := [.data, .data, .data, .data, .sentinel, .sentinel, .pinned], laidTests := true, laidLooks := .later }
def FnExactReadOrderCardSaid : Prop := Claim7.holds Tryd.pinned (.plain (OpenSpec.ofChange fnExactReadOrderSpec)) fnExactReadOrderCard

/-- THE TIED CARD OF 'laws.FnExactSheetText'. -/
def fnExactSheetTextCard : Claim7 := { stood := { row := fnExactSheetTextRow, standIns := [], harness := (true, "8bfa3e465cefc5e1def5e3675076c0b525f7beae05400e34b5d5f7603f8028fc"), looks := true }, kinds := [], alts := [], laidByText := true, laidKinds := [.data, .data, .data], laidTests := true, laidLooks := .later }
def FnExactSheetTextCardSaid : Prop := Claim7.holds Tryd.pinned (.plain (OpenSpec.ofChange fnExactSheetTextSpec)) fnExactSheetTextCard

/-- THE TIED CARD OF 'laws.FnExactReadSheet'. -/
def fnExactReadSheetCard : Claim7 := { stood := { row := fnExactReadSheetRow, standIns := [], harness := (true, "8bfa3e465cefc5e1def5e3675076c0b525f7beae05400e34b5d5f7603f8028fc"), looks := true }, kinds := [], alts := [], laidByText := true, laidKinds := [.data, .data, .data, .data, .sentinel, .sentinel, .pinned], laidTests := true, laidLooks := .later }
def FnExactReadSheetCardSaid : Prop := Claim7.holds Tryd.pinned (.plain (OpenSpec.ofChange fnExactReadSheetSpec)) fnExactReadSheetCard

/-- THE TIED CARD OF 'laws.FnExactShrinkFrame'. -/
def fnExactShrinkFrameCard : Claim7 := { stood := { row := fnExactShrinkFrameRow, standIns := [], harness := (true, "8bfa3e465cefc5e1def5e3675076c0b525f7beae05400e34b5d5f7603f8028fc"), looks := true }, kinds := [], alts := [], laidByText := true, laidKinds := [.data, .data], laidTests := true, laidLooks := .later }
def FnExactShrinkFrameCardSaid : Prop := Claim7.holds Tryd.pinned (.plain (OpenSpec.ofChange fnExactShrinkFrameSpec)) fnExactShrinkFrameCard

/-- THE TIED CARD OF 'laws.FnExactBlobAt'. -/
def fnExactBlobAtCard : Claim7 := { stood := { row := fnExactBlobAtRow, standIns := [], harness := (true, "8bfa3e465cefc5e1def5e3675076c0b525f7beae05400e34b5d5f7603f8028fc"), looks := true }, kinds := [], alts := [], laidByText := true, laidKinds := [.data], laidTests := true, laidLooks := .later }
def FnExactBlobAtCardSaid : Prop := Claim7.holds Tryd.pinned (.plain (OpenSpec.ofChange fnExactBlobAtSpec)) fnExactBlobAtCard

/-- THE TIED CARD OF 'laws.FnExactBlobsOf'. -/
def fnExactBlobsOfCard : Claim7 := { stood := { row := fnExactBlobsOfRow, standIns := [], harness := (true, "8bfa3e465cefc5e1def5e3675076c0b525f7beae05400e34b5d5f7603f8028fc"), looks := true }, kinds := [], alts := [], laidByText := true, laidKinds := [.data, .data], laidTests := true, laidLooks := .later }
def FnExactBlobsOfCardSaid : Prop := Claim7.holds Tryd.pinned (.plain (OpenSpec.ofChange fnExactBlobsOfSpec)) fnExactBlobsOfCard

/-- THE SECOND FORM's CARD OF 'laws.FnExactOrderText'. -/
def fnExactOrderTextUptoCard : Claim7 := { stood := { row := fnExactOrderTextUptoRow, standIns := [], harness := (true, "8bfa3e465cefc5e1def5e3675076c0b525f7beae05400e34b5d5f7603f8028fc"), looks := true }, kinds := [], alts := [], laidByText := true, laidKinds := [.data, .data, .data], laidTests := true, laidLooks := .later }
def FnExactOrderTextUptoCardSaid : Prop := Claim7.holds Tryd.pinned (.plain (OpenSpec.upto fnExactOrderTextSpec)) fnExactOrderTextUptoCard

/-- THE SECOND FORM's CARD OF 'laws.FnExactReadOrder'. -/
def fnExactReadOrderUptoCard : Claim7 := { stood := { row := fnExactReadOrderUptoRow, standIns := [], harness := (true, "8bfa3e465cefc5e1def5e3675076c0b525f7beae05400e34b5d5f7603f8028fc"), looks := true }, kinds := [], alts := [], laidByText := true, laidKinds := [.data, .data, .data, .data, .sentinel, .sentinel, .pinned], laidTests := true, laidLooks := .later }
def FnExactReadOrderUptoCardSaid : Prop := Claim7.holds Tryd.pinned (.plain (OpenSpec.upto fnExactReadOrderSpec)) fnExactReadOrderUptoCard

/-- THE SECOND FORM's CARD OF 'laws.FnExactSheetText'. -/
def fnExactSheetTextUptoCard : Claim7 := { stood := { row := fnExactSheetTextUptoRow, standIns := [], harness := (true, "8bfa3e465cefc5e1def5e3675076c0b525f7beae05400e34b5d5f7603f8028fc"), looks := true }, kinds := [], alts := [], laidByText := true, laidKinds := [.data, .data, .data], laidTests := true, laidLooks := .later }
def FnExactSheetTextUptoCardSaid : Prop := Claim7.holds Tryd.pinned (.plain (OpenSpec.upto fnExactSheetTextSpec)) fnExactSheetTextUptoCard

/-- THE SECOND FORM's CARD OF 'laws.FnExactReadSheet'. -/
def fnExactReadSheetUptoCard : Claim7 := { stood := { row := fnExactReadSheetUptoRow, standIns := [], harness := (true, "8bfa3e465cefc5e1def5e3675076c0b525f7beae05400e34b5d5f7603f8028fc"), looks := true }, kinds := [], alts := [], laidByText := true, laidKinds := [.data, .data, .data, .data, .sentinel, .sentinel, .pinned], laidTests := true, laidLooks := .later }
def FnExactReadSheetUptoCardSaid : Prop := Claim7.holds Tryd.pinned (.plain (OpenSpec.upto fnExactReadSheetSpec)) fnExactReadSheetUptoCard

/-- THE SECOND FORM's CARD OF 'laws.FnExactShrinkFrame'. -/
def fnExactShrinkFrameUptoCard : Claim7 := { stood := { row := fnExactShrinkFrameUptoRow, standIns := [], harness := (true, "8bfa3e465cefc5e1def5e3675076c0b525f7beae05400e34b5d5f7603f8028fc"), looks := true }, kinds := [], alts := [], laidByText := true, laidKinds := [.data, .data], laidTests := true, laidLooks := .later }
def FnExactShrinkFrameUptoCardSaid : Prop := Claim7.holds Tryd.pinned (.plain (OpenSpec.upto fnExactShrinkFrameSpec)) fnExactShrinkFrameUptoCard

/-- THE SECOND FORM's CARD OF 'laws.FnExactBlobAt'. -/
def fnExactBlobAtUptoCard : Claim7 := { stood := { row := fnExactBlobAtUptoRow, standIns := [], harness := (true, "8bfa3e465cefc5e1def5e3675076c0b525f7beae05400e34b5d5f7603f8028fc"), looks := true }, kinds := [], alts := [], laidByText := true, laidKinds := [.data], laidTests := true, laidLooks := .later }
def FnExactBlobAtUptoCardSaid : Prop := Claim7.holds Tryd.pinned (.plain (OpenSpec.upto fnExactBlobAtSpec)) fnExactBlobAtUptoCard

/-- THE SECOND FORM's CARD OF 'laws.FnExactBlobsOf'. -/
def fnExactBlobsOfUptoCard : Claim7 := { stood := { row := fnExactBlobsOfUptoRow, standIns := [], harness := (true, "8bfa3e465cefc5e1def5e3675076c0b525f7beae05400e34b5d5f7603f8028fc"), looks := true }, kinds := [], alts := [], laidByText := true, laidKinds := [.data, .data], laidTests := true, laidLooks := .later }
def FnExactBlobsOfUptoCardSaid : Prop := Claim7.holds Tryd.pinned (.plain (OpenSpec.upto fnExactBlobsOfSpec)) fnExactBlobsOfUptoCard
end Rows
end Go.Proofs.YtajlkleoincoeabDoor
