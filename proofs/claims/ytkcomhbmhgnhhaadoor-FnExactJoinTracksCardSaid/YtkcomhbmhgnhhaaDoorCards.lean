/-
  DERIVED. GIVEN WITH THE SEED: THE CARDS: each row of YtkcomhbmhgnhhaaDoorRows.lean that lists a variable, with what it lists TIED to the program's text (the seventh form; the later family's looks); each row that meets fmt, with fmt's text TOLD by the authors' own Lean function (tested against real Go, not proved from fmt's source: count such statements apart). THE CARD IS WHAT COUNTS. Prove the row's statement (the work); the ties are given (YtkcomhbmhgnhhaaDoorTie.lean); close each card by the builder's one call (the guide's Derived/Test/ToyasCard.lean, 'card_holds'). Laid BY PROGRAM, IN A SANDBOX (cutbox-door.mjs). By AI agents, Wed Nov 11 2026. No macro, syntax, notation, axiom, sorry.
-/
import Derived.Test.YtkcomhbmhgnhhaaDoorRows
import GoSem.ClaimSeven
namespace Go.Proofs.YtkcomhbmhgnhhaaDoor
namespace Rows

/-- THE TIED CARD OF 'laws.FnExactJoinTracks'. -/
def fnExactJoinTracksCard : Claim7 := { stood := { row := fnExactJoinTracksRow, standIns := [], harness := (true, "6305043557574fdfef6ed7b56a7266c1336e637a31f8fee1b3126fd15583f814"), looks := true }, kinds := [], alts := [], laidByText := true, laidKinds := [.sentinel, .sentinel, .sentinel, .sentinel, .sentinel], laidTests := true, laidLooks := .later }
def FnExactJoinTracksCardSaid : Prop := Claim7.holds Tryd.pinned (.plain (OpenSpec.ofChange fnExactJoinTracksSpec)) fnExactJoinTracksCard

/-- THE TIED CARD OF 'laws.FnExactThinTrack'. -/
def fnExactThinTrackCard : Claim7 := { stood := { row := fnExactThinTrackRow, standIns := [], harness := (true, "6305043557574fdfef6ed7b56a7266c1336e637a31f8fee1b3126fd15583f814"), looks := true }, kinds := [], alts := [], laidByText := true, laidKinds := [.sentinel, .sentinel, .sentinel, .sentinel, .sentinel], laidTests := true, laidLooks := .later }
def FnExactThinTrackCardSaid : Prop := Claim7.holds Tryd.pinned (.plain (OpenSpec.ofChange fnExactThinTrackSpec)) fnExactThinTrackCard

/-- THE TIED CARD OF 'laws.FnExactFrameAt'. -/
def fnExactFrameAtCard : Claim7 := { stood := { row := fnExactFrameAtRow, standIns := [], harness := (true, "6305043557574fdfef6ed7b56a7266c1336e637a31f8fee1b3126fd15583f814"), looks := true }, kinds := [], alts := [], laidByText := true, laidKinds := [.sentinel, .sentinel, .sentinel, .sentinel, .sentinel], laidTests := true, laidLooks := .later }
def FnExactFrameAtCardSaid : Prop := Claim7.holds Tryd.pinned (.plain (OpenSpec.ofChange fnExactFrameAtSpec)) fnExactFrameAtCard

/-- THE SECOND FORM's CARD OF 'laws.FnExactJoinTracks'. -/
def fnExactJoinTracksUptoCard : Claim7 := { stood := { row := fnExactJoinTracksUptoRow, standIns := [], harness := (true, "6305043557574fdfef6ed7b56a7266c1336e637a31f8fee1b3126fd15583f814"), looks := true }, kinds := [], alts := [], laidByText := true, laidKinds := [.sentinel, .sentinel, .sentinel, .sentinel, .sentinel], laidTests := true, laidLooks := .later }
def FnExactJoinTracksUptoCardSaid : Prop := Claim7.holds Tryd.pinned (.plain (OpenSpec.upto fnExactJoinTracksSpec)) fnExactJoinTracksUptoCard

/-- THE SECOND FORM's CARD OF 'laws.FnExactThinTrack'. -/
def fnExactThinTrackUptoCard : Claim7 := { stood := { row := fnExactThinTrackUptoRow, standIns := [], harness := (true, "6305043557574fdfef6ed7b56a7266c1336e637a31f8fee1b3126fd15583f814"), looks := true }, kinds := [], alts := [], laidByText := true, laidKinds := [.sentinel, .sentinel, .sentinel, .sentinel, .sentinel], laidTests := true, laidLooks := .later }
def FnExactThinTrackUptoCardSaid : Prop := Claim7.holds Tryd.pinned (.plain (OpenSpec.upto fnExactThinTrackSpec)) fnExactThinTrackUptoCard

/-- THE SECOND FORM's CARD OF 'laws.FnExactFrameAt'. -/
def fnExactFrameAtUptoCard : Claim7 := { stood := { row := fnExactFrameAtUptoRow, standIns := [], harness := (true, "6305043557574fdfef6ed7b56a7266c1336e637a31f8fee1b3126fd15583f814"), looks := true }, kinds := [], alts := [], laidByText := true, laidKinds := [.sentinel, .sentinel, .sentinel, .sentinel, .sentinel], laidTests := true, laidLooks := .later }
def FnExactFrameAtUptoCardSaid : Prop := Claim7.holds Tryd.pinned (.plain (OpenSpec.upto fnExactFrameAtSpec)) fnExactFrameAtUptoCard
end Rows
end Go.Proofs.YtkcomhbmhgnhhaaDoor
