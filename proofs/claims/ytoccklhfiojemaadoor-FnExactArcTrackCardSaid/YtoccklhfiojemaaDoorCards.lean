/-
  DERIVED. GIVEN WITH THE SEED: THE CARDS: each row of YtoccklhfiojemaaDoorRows.lean that lists a variable, with what it lists TIED to the program's text (the seventh form; the later family's looks); each row that meets fmt, with fmt's text TOLD by the authors' own Lean function (tested against real Go, not proved from fmt's source: count such statements apart). THE CARD IS WHAT COUNTS. Prove the row's statement (the work); the ties are given (YtoccklhfiojemaaDoorTie.lean); close each card by the builder's one call (the guide's Derived/Test/ToyasCard.lean, 'card_holds'). Laid BY PROGRAM, IN A SANDBOX (cutbox-door.mjs). By AI agents, Wed Nov 11 2026. No macro, syntax, notation, axiom, sorry.
-/
import Derived.Test.YtoccklhfiojemaaDoorRows
import GoSem.ClaimSeven
namespace Go.Proofs.YtoccklhfiojemaaDoor
namespace Rows

/-- THE TIED CARD OF 'laws.FnExactPlaceAt'. -/
def fnExactPlaceAtCard : Claim7 := { stood := { row := fnExactPlaceAtRow, standIns := [], harness := (true, "1ab6d257cf1c1c502d090734645559976a4d4f94ad9850165742f33e05e7aa7a"), looks := true }, kinds := [], alts := [], laidByText := true, laidKinds := [.sentinel, .sentinel, .sentinel, .sentinel, .sentinel], laidTests := true, laidLooks := .later }
def FnExactPlaceAtCardSaid : Prop := Claim7.holds Tryd.pinned (.plain (OpenSpec.ofChange fnExactPlaceAtSpec)) fnExactPlaceAtCard

/-- THE TIED CARD OF 'laws.FnExactSpeedsOf'. -/
def fnExactSpeedsOfCard : Claim7 := { stood := { row := fnExactSpeedsOfRow, standIns := [], harness := (true, "1ab6d257cf1c1c502d090734645559976a4d4f94ad9850165742f33e05e7aa7a"), looks := true }, kinds := [], alts := [], laidByText := true, laidKinds := [.sentinel, .sentinel, .sentinel, .sentinel, .sentinel], laidTests := true, laidLooks := .later }
def FnExactSpeedsOfCardSaid : Prop := Claim7.holds Tryd.pinned (.plain (OpenSpec.ofChange fnExactSpeedsOfSpec)) fnExactSpeedsOfCard

/-- THE TIED CARD OF 'laws.FnExactFastestTick'. -/
def fnExactFastestTickCard : Claim7 := { stood := { row := fnExactFastestTickRow, standIns := [], harness := (true, "1ab6d257cf1c1c502d090734645559976a4d4f94ad9850165742f33e05e7aa7a"), looks := true }, kinds := [], alts := [], laidByText := true, laidKinds := [.sentinel, .sentinel, .sentinel, .sentinel, .sentinel], laidTests := true, laidLooks := .later }
def FnExactFastestTickCardSaid : Prop := Claim7.holds Tryd.pinned (.plain (OpenSpec.ofChange fnExactFastestTickSpec)) fnExactFastestTickCard

/-- THE TIED CARD OF 'laws.FnExactShiftTrack'. -/
def fnExactShiftTrackCard : Claim7 := { stood := { row := fnExactShiftTrackRow, standIns := [], harness := (true, "1ab6d257cf1c1c502d090734645559976a4d4f94ad9850165742f33e05e7aa7a"), looks := true }, kinds := [], alts := [], laidByText := true, laidKinds := [.sentinel, .sentinel, .sentinel, .sentinel, .sentinel], laidTests := true, laidLooks := .later }
def FnExactShiftTrackCardSaid : Prop := Claim7.holds Tryd.pinned (.plain (OpenSpec.ofChange fnExactShiftTrackSpec)) fnExactShiftTrackCard

/-- THE TIED CARD OF 'laws.FnExactBackTrack'. -/
def fnExactBackTrackCard : Claim7 := { stood := { row := fnExactBackTrackRow, standIns := [], harness := (true, "1ab6d257cf1c1c502d090734645559976a4d4f94ad9850165742f33e05e7aa7a"), looks := true }, kinds := [], alts := [], laidByText := true, laidKinds := [.sentinel, .sentinel, .sentinel, .sentinel, .sentinel], laidTests := true, laidLooks := .later }
def FnExactBackTrackCardSaid : Prop := Claim7.holds Tryd.pinned (.plain (OpenSpec.ofChange fnExactBackTrackSpec)) fnExactBackTrackCard

/-- THE TIED CARD OF 'laws.FnExactJoinTracks'. -/
def fnExactJoinTracksCard : Claim7 := { stood := { row := fnExactJoinTracksRow, standIns := [], harness := (true, "1ab6d257cf1c1c502d090734645559976a4d4f94ad9850165742f33e05e7aa7a"), looks := true }, kinds := [], alts := [], laidByText := true, laidKinds := [.sentinel, .sentinel, .sentinel, .sentinel, .sentinel], laidTests := true, laidLooks := .later }
def FnExactJoinTracksCardSaid : Prop := Claim7.holds Tryd.pinned (.plain (OpenSpec.ofChange fnExactJoinTracksSpec)) fnExactJoinTracksCard

/-- THE TIED CARD OF 'laws.FnExactArcTrack'. -/
def fnExactArcTrackCard : Claim7 := { stood := { row := fnExactArcTrackRow, standIns := [], harness := (true, "1ab6d257cf1c1c502d090734645559976a4d4f94ad9850165742f33e05e7aa7a"), looks := true }, kinds := [], alts := [], laidByText := true, laidKinds := [.sentinel, .sentinel, .sentinel, .sentinel, .sentinel], laidTests := true, laidLooks := .later }
def FnExactArcTrackCardSaid : Prop := Claim7.holds Tryd.pinned (.plain (OpenSpec.ofChange fnExactArcTrackSpec)) fnExactArcTrackCard

/-- THE SECOND FORM's CARD OF 'laws.FnExactPlaceAt'. -/
def fnExactPlaceAtUptoCard : Claim7 := { stood := { row := fnExactPlaceAtUptoRow, standIns := [], harness := (true, "1ab6d257cf1c1c502d090734645559976a4d4f94ad9850165742f33e05e7aa7a"), looks := true }, kinds := [], alts := [], laidByText := true, laidKinds := [.sentinel, .sentinel, .sentinel, .sentinel, .sentinel], laidTests := true, laidLooks := .later }
def FnExactPlaceAtUptoCardSaid : Prop := Claim7.holds Tryd.pinned (.plain (OpenSpec.upto fnExactPlaceAtSpec)) fnExactPlaceAtUptoCard

/-- THE SECOND FORM's CARD OF 'laws.FnExactSpeedsOf'. -/
def fnExactSpeedsOfUptoCard : Claim7 := { stood := { row := fnExactSpeedsOfUptoRow, standIns := [], harness := (true, "1ab6d257cf1c1c502d090734645559976a4d4f94ad9850165742f33e05e7aa7a"), looks := true }, kinds := [], alts := [], laidByText := true, laidKinds := [.sentinel, .sentinel, .sentinel, .sentinel, .sentinel], laidTests := true, laidLooks := .later }
def FnExactSpeedsOfUptoCardSaid : Prop := Claim7.holds Tryd.pinned (.plain (OpenSpec.upto fnExactSpeedsOfSpec)) fnExactSpeedsOfUptoCard

/-- THE SECOND FORM's CARD OF 'laws.FnExactFastestTick'. -/
def fnExactFastestTickUptoCard : Claim7 := { stood := { row := fnExactFastestTickUptoRow, standIns := [], harness := (true, "1ab6d257cf1c1c502d090734645559976a4d4f94ad9850165742f33e05e7aa7a"), looks := true }, kinds := [], alts := [], laidByText := true, laidKinds := [.sentinel, .sentinel, .sentinel, .sentinel, .sentinel], laidTests := true, laidLooks := .later }
def FnExactFastestTickUptoCardSaid : Prop := Claim7.holds Tryd.pinned (.plain (OpenSpec.upto fnExactFastestTickSpec)) fnExactFastestTickUptoCard

/-- THE SECOND FORM's CARD OF 'laws.FnExactShiftTrack'. -/
def fnExactShiftTrackUptoCard : Claim7 := { stood := { row := fnExactShiftTrackUptoRow, standIns := [], harness := (true, "1ab6d257cf1c1c502d090734645559976a4d4f94ad9850165742f33e05e7aa7a"), looks := true }, kinds := [], alts := [], laidByText := true, laidKinds := [.sentinel, .sentinel, .sentinel, .sentinel, .sentinel], laidTests := true, laidLooks := .later }
def FnExactShiftTrackUptoCardSaid : Prop := Claim7.holds Tryd.pinned (.plain (OpenSpec.upto fnExactShiftTrackSpec)) fnExactShiftTrackUptoCard

/-- THE SECOND FORM's CARD OF 'laws.FnExactBackTrack'. -/
def fnExactBackTrackUptoCard : Claim7 := { stood := { row := fnExactBackTrackUptoRow, standIns := [], harness := (true, "1ab6d257cf1c1c502d090734645559976a4d4f94ad9850165742f33e05e7aa7a"), looks := true }, kinds := [], alts := [], laidByText := true, laidKinds := [.sentinel, .sentinel, .sentinel, .sentinel, .sentinel], laidTests := true, laidLooks := .later }
def FnExactBackTrackUptoCardSaid : Prop := Claim7.holds Tryd.pinned (.plain (OpenSpec.upto fnExactBackTrackSpec)) fnExactBackTrackUptoCard

/-- THE SECOND FORM's CARD OF 'laws.FnExactJoinTracks'. -/
def fnExactJoinTracksUptoCard : Claim7 := { stood := { row := fnExactJoinTracksUptoRow, standIns := [], harness := (true, "1ab6d257cf1c1c502d090734645559976a4d4f94ad9850165742f33e05e7aa7a"), looks := true }, kinds := [], alts := [], laidByText := true, laidKinds := [.sentinel, .sentinel, .sentinel, .sentinel, .sentinel], laidTests := true, laidLooks := .later }
def FnExactJoinTracksUptoCardSaid : Prop := Claim7.holds Tryd.pinned (.plain (OpenSpec.upto fnExactJoinTracksSpec)) fnExactJoinTracksUptoCard

/-- THE SECOND FORM's CARD OF 'laws.FnExactArcTrack'. -/
def fnExactArcTrackUptoCard : Claim7 := { stood := { row := fnExactArcTrackUptoRow, standIns := [], harness := (true, "1ab6d257cf1c1c502d090734645559976a4d4f94ad9850165742f33e05e7aa7a"), looks := true }, kinds := [], alts := [], laidByText := true, laidKinds := [.sentinel, .sentinel, .sentinel, .sentinel, .sentinel], laidTests := true, laidLooks := .later }
def FnExactArcTrackUptoCardSaid : Prop := Claim7.holds Tryd.pinned (.plain (OpenSpec.upto fnExactArcTrackSpec)) fnExactArcTrackUptoCard
end Rows
end Go.Proofs.YtoccklhfiojemaaDoor
