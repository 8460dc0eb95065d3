/-
  DERIVED. GIVEN WITH THE SEED: THE CARDS: each row of YtennmnkjdchbhabDoorRows.lean that lists a variable, with what it lists TIED to the program's text (the seventh form; the later family's looks); each row that meets fmt, with fmt's text TOLD by the authors' own Lean function (tested against real Go, not proved from fmt's source: count such statements apart). THE CARD IS WHAT COUNTS. Prove the row's statement (the work); the ties are given (YtennmnkjdchbhabDoorTie.lean); close each card by the builder's one call (the guide's Derived/Test/ToyasCard.lean, 'card_holds'). Laid BY PROGRAM, IN A SANDBOX (cutbox-door.mjs). By AI agents, Wed Nov 11 2026. No macro, syntax, notation, axiom, sorry.
-/
import Derived.Test.YtennmnkjdchbhabDoorRows
import GoSem.ClaimSeven
namespace Go.Proofs.YtennmnkjdchbhabDoor
namespace Rows

/-- THE TIED CARD OF 'laws.FnExactBackTrack'. -/
def fnExactBackTrackCard : Claim7 := { stood := { row := fnExactBackTrackRow, standIns := [], harness := (true, "e18bf997de3700d11492be36850f51e433f83c0b8ffde45c9147225f86784915"), looks := true }, kinds := [], alts := [], laidByText := true, laidKinds := [.sentinel, .sentinel, .sentinel, .sentinel, .sentinel], laidTests := true, laidLooks := .later }
def FnExactBackTrackCardSaid : Prop := Claim7.holds Tryd.pinned (.plain (OpenSpec.ofChange fnExactBackTrackSpec)) fnExactBackTrackCard

/-- THE TIED CARD OF 'laws.FnExactJoinTracks'. -/
def fnExactJoinTracksCard : Claim7 := { stood := { row := fnExactJoinTracksRow, standIns := [], harness := (true, "e18bf997de3700d11492be36850f51e433f83c0b8ffde45c9147225f86784915"), looks := true }, kinds := [], alts := [], laidByText := true, laidKinds := [.sentinel, .sentinel, .sentinel, .sentinel, .sentinel], laidTests := true, laidLooks := .later }
def FnExactJoinTracksCardSaid : Prop := Claim7.holds Tryd.pinned (.plain (OpenSpec.ofChange fnExactJoinTracksSpec)) fnExactJoinTracksCard

/-- THE TIED CARD OF 'laws.FnExactThinTrack'. -/
def fnExactThinTrackCard : Claim7 := { stood := { row := fnExactThinTrackRow, standIns := [], harness := (true, "e18bf997de3700d11492be36850f51e433f83c0b8ffde45c9147225f86784915"), looks := true }, kinds := [], alts := [], laidByText := true, laidKinds := [.sentinel, .sentinel, .sentinel, .sentinel, .sentinel], laidTests := true, laidLooks := .later }
def FnExactThinTrackCardSaid : Prop := Claim7.holds Tryd.pinned (.plain (OpenSpec.ofChange fnExactThinTrackSpec)) fnExactThinTrackCard

/-- THE TIED CARD OF 'laws.FnExactFrameAt'. -/
def fnExactFrameAtCard : Claim7 := { stood := { row := fnExactFrameAtRow, standIns := [], harness := (true, "e18bf997de3700d11492be36850f51e433f83c0b8ffde45c9147225f86784915"), looks := true }, kinds := [], alts := [], laidByText := true, laidKinds := [.sentinel, .sentinel, .sentinel, .sentinel, .sentinel], laidTests := true, laidLooks := .later }
def FnExactFrameAtCardSaid : Prop := Claim7.holds Tryd.pinned (.plain (OpenSpec.ofChange fnExactFrameAtSpec)) fnExactFrameAtCard

/-- THE TIED CARD OF 'laws.FnExactMorphAt'. -/
def fnExactMorphAtCard : Claim7 := { stood := { row := fnExactMorphAtRow, standIns := [], harness := (true, "e18bf997de3700d11492be36850f51e433f83c0b8ffde45c9147225f86784915"), looks := true }, kinds := [], alts := [], laidByText := true, laidKinds := [.sentinel, .sentinel, .sentinel, .sentinel, .sentinel], laidTests := true, laidLooks := .later }
def FnExactMorphAtCardSaid : Prop := Claim7.holds Tryd.pinned (.plain (OpenSpec.ofChange fnExactMorphAtSpec)) fnExactMorphAtCard

/-- THE TIED CARD OF 'laws.FnExactMorphBook'. -/
def fnExactMorphBookCard : Claim7 := { stood := { row := fnExactMorphBookRow, standIns := [], harness := (true, "e18bf997de3700d11492be36850f51e433f83c0b8ffde45c9147225f86784915"), looks := true }, kinds := [], alts := [], laidByText := true, laidKinds := [.sentinel, .sentinel, .sentinel, .sentinel, .sentinel], laidTests := true, laidLooks := .later }
def FnExactMorphBookCardSaid : Prop := Claim7.holds Tryd.pinned (.plain (OpenSpec.ofChange fnExactMorphBookSpec)) fnExactMorphBookCard

/-- THE SECOND FORM's CARD OF 'laws.FnExactBackTrack'. -/
def fnExactBackTrackUptoCard : Claim7 := { stood := { row := fnExactBackTrackUptoRow, standIns := [], harness := (true, "e18bf997de3700d11492be36850f51e433f83c0b8ffde45c9147225f86784915"), looks := true }, kinds := [], alts := [], laidByText := true, laidKinds := [.sentinel, .sentinel, .sentinel, .sentinel, .sentinel], laidTests := true, laidLooks := .later }
def FnExactBackTrackUptoCardSaid : Prop := Claim7.holds Tryd.pinned (.plain (OpenSpec.upto fnExactBackTrackSpec)) fnExactBackTrackUptoCard

/-- THE SECOND FORM's CARD OF 'laws.FnExactJoinTracks'. -/
def fnExactJoinTracksUptoCard : Claim7 := { stood := { row := fnExactJoinTracksUptoRow, standIns := [], harness := (true, "e18bf997de3700d11492be36850f51e433f83c0b8ffde45c9147225f86784915"), looks := true }, kinds := [], alts := [], laidByText := true, laidKinds := [.sentinel, .sentinel, .sentinel, .sentinel, .sentinel], laidTests := true, laidLooks := .later }
def FnExactJoinTracksUptoCardSaid : Prop := Claim7.holds Tryd.pinned (.plain (OpenSpec.upto fnExactJoinTracksSpec)) fnExactJoinTracksUptoCard

/-- THE SECOND FORM's CARD OF 'laws.FnExactThinTrack'. -/
def fnExactThinTrackUptoCard : Claim7 := { stood := { row := fnExactThinTrackUptoRow, standIns := [], harness := (true, "e18bf997de3700d11492be36850f51e433f83c0b8ffde45c9147225f86784915"), looks := true }, kinds := [], alts := [], laidByText := true, laidKinds := [.sentinel, .sentinel, .sentinel, .sentinel, .sentinel], laidTests := true, laidLooks := .later }
def FnExactThinTrackUptoCardSaid : Prop := Claim7.holds Tryd.pinned (.plain (OpenSpec.upto fnExactThinTrackSpec)) fnExactThinTrackUptoCard

/-- THE SECOND FORM's CARD OF 'laws.FnExactFrameAt'. -/
def fnExactFrameAtUptoCard : Claim7 := { stood := { row := fnExactFrameAtUptoRow, standIns := [], harness := (true, "e18bf997de3700d11492be36850f51e433f83c0b8ffde45c9147225f86784915"), looks := true }, kinds := [], alts := [], laidByText := true, laidKinds := [.sentinel, .sentinel, .sentinel, .sentinel, .sentinel], laidTests := true, laidLooks := .later }
def FnExactFrameAtUptoCardSaid : Prop := Claim7.holds Tryd.pinned (.plain (OpenSpec.upto fnExactFrameAtSpec)) fnExactFrameAtUptoCard

/-- THE SECOND FORM's CARD OF 'laws.FnExactMorphAt'. -/
def fnExactMorphAtUptoCard : Claim7 := { stood := { row := fnExactMorphAtUptoRow, standIns := [], harness := (true, "e18bf997de3700d11492be36850f51e433f83c0b8ffde45c9147225f86784915"), looks := true }, kinds := [], alts := [], laidByText := true, laidKinds := [.sentinel, .sentinel, .sentinel, .sentinel, .sentinel], laidTests := true, laidLooks := .later }
def FnExactMorphAtUptoCardSaid : Prop := Claim7.holds Tryd.pinned (.plain (OpenSpec.upto fnExactMorphAtSpec)) fnExactMorphAtUptoCard

/-- THE SECOND FORM's CARD OF 'laws.FnExactMorphBook'. -/
def fnExactMorphBookUptoCard : Claim7 := { stood := { row := fnExactMorphBookUptoRow, standIns := [], harness := (true, "e18bf997de3700d11492be36850f51e433f83c0b8ffde45c9147225f86784915"), looks := true }, kinds := [], alts := [], laidByText := true, laidKinds := [.sentinel, .sentinel, .sentinel, .sentinel, .sentinel], laidTests := true, laidLooks := .later }
def FnExactMorphBookUptoCardSaid : Prop := Claim7.holds Tryd.pinned (.plain (OpenSpec.upto fnExactMorphBookSpec)) fnExactMorphBookUptoCard
end Rows
end Go.Proofs.YtennmnkjdchbhabDoor
