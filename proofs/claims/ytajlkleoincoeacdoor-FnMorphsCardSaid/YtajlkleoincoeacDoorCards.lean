/-
  DERIVED. GIVEN WITH THE SEED: THE CARDS: each row of YtajlkleoincoeacDoorRows.lean that lists a variable, with what it lists TIED to the program's text (the seventh form; the later family's looks); each row that meets fmt, with fmt's text TOLD by the authors' own Lean function (tested against real Go, not proved from fmt's source: count such statements apart). THE CARD IS WHAT COUNTS. Prove the row's statement (the work); the ties are given (YtajlkleoincoeacDoorTie.lean); close each card by the builder's one call (the guide's Derived/Test/ToyasCard.lean, 'card_holds'). Laid BY PROGRAM, IN A SANDBOX (cutbox-door.mjs). By AI agents, Wed Nov 11 2026. No macro, syntax, notation, axiom, sorry.
-/
import Derived.Test.YtajlkleoincoeacDoorRows
import GoSem.ClaimSeven
namespace Go.Proofs.YtajlkleoincoeacDoor
namespace Rows

/-- THE TIED CARD OF 'laws.FnExactFrameAt'. -/
def fnExactFrameAtCard : Claim7 := { stood := { row := fnExactFrameAtRow, standIns := [], harness := (true, "d6b13ff6f5e31b00da0d0170f2da9f74e82e7eaaa375ca29e31cc316b6b9abaa"), looks := true }, kinds := [], alts := [], laidByText := true, laidKinds := [.sentinel, .sentinel, .sentinel, .sentinel, .sentinel], laidTests := true, laidLooks := .later }
def FnExactFrameAtCardSaid : Prop := Claim7.holds Tryd.pinned (.plain (OpenSpec.ofChange fnExactFrameAtSpec)) fnExactFrameAtCard

/-- THE TIED CARD OF 'laws.FnExactThinTrack'. -/
def fnExactThinTrackCard : Claim7 := { stood := { row := fnExactThinTrackRow, standIns := [], harness := (true, "d6b13ff6f5e31b00da0d0170f2da9f74e82e7eaaa375ca29e31cc316b6b9abaa"), looks := true }, kinds := [], alts := [], laidByText := true, laidKinds := [.sentinel, .sentinel, .sentinel, .sentinel, .sentinel], laidTests := true, laidLooks := .later }
def FnExactThinTrackCardSaid : Prop := Claim7.holds Tryd.pinned (.plain (OpenSpec.ofChange fnExactThinTrackSpec)) fnExactThinTrackCard

/-- THE TIED CARD OF 'laws.FnExactTrackText'. -/
def fnExactTrackTextCard : Claim7 := { stood := { row := fnExactTrackTextRow, standIns := [], harness := (true, "d6b13ff6f5e31b00da0d0170f2da9f74e82e7eaaa375ca29e31cc316b6b9abaa"), looks := true }, kinds := [], alts := [], laidByText := true, laidKinds := [.data, .data, .data], laidTests := true, laidLooks := .later }
def FnExactTrackTextCardSaid : Prop := Claim7.holds Tryd.pinned (.plain (OpenSpec.ofChange fnExactTrackTextSpec)) fnExactTrackTextCard

/-- THE TIED CARD OF 'laws.FnExactReadTrack'. -/
def fnExactReadTrackCard : Claim7 := { stood := { row := fnExactReadTrackRow, standIns := [], harness := (true, "d6b13ff6f5e31b00da0d0170f2da9f74e82e7eaaa375ca29e31cc316b6b9abaa"), looks := true }, kinds := [], alts := [], laidByText := true, laidKinds := [.data, .data, .data, .data, .sentinel, .sentinel, .sentinel, .sentinel, .sentinel, .sentinel, .sentinel, .pinned], laidTests := true, laidLooks := .later }
def FnExactReadTrackCardSaid : Prop := Claim7.holds Tryd.pinned (.plain (OpenSpec.ofChange fnExactReadTrackSpec)) fnExactReadTrackCard

/-- THE TIED CARD OF 'laws.FnMorphs'. -/
def fnMorphsCard : Claim7 := { stood := { row := fnMorphsRow, standIns := [], harness := (true, "d6b13ff6f5e31b00da0d0170f2da9f74e82e7eaaa375ca29e31cc316b6b9abaa"), looks := true }, kinds := [], alts := [], laidByText := true, laidKinds := [.sentinel, .sentinel, .sentinel, .sentinel, .sentinel], laidTests := true, laidLooks := .later }
def FnMorphsCardSaid : Prop := Claim7.holds Tryd.pinned (.plain (OpenSpec.ofChange fnMorphsSpec)) fnMorphsCard

/-- THE SECOND FORM's CARD OF 'laws.FnExactFrameAt'. -/
def fnExactFrameAtUptoCard : Claim7 := { stood := { row := fnExactFrameAtUptoRow, standIns := [], harness := (true, "d6b13ff6f5e31b00da0d0170f2da9f74e82e7eaaa375ca29e31cc316b6b9abaa"), looks := true }, kinds := [], alts := [], laidByText := true, laidKinds := [.sentinel, .sentinel, .sentinel, .sentinel, .sentinel], laidTests := true, laidLooks := .later }
def FnExactFrameAtUptoCardSaid : Prop := Claim7.holds Tryd.pinned (.plain (OpenSpec.upto fnExactFrameAtSpec)) fnExactFrameAtUptoCard

/-- THE SECOND FORM's CARD OF 'laws.FnExactThinTrack'. -/
def fnExactThinTrackUptoCard : Claim7 := { stood := { row := fnExactThinTrackUptoRow, standIns := [], harness := (true, "d6b13ff6f5e31b00da0d0170f2da9f74e82e7eaaa375ca29e31cc316b6b9abaa"), looks := true }, kinds := [], alts := [], laidByText := true, laidKinds := [.sentinel, .sentinel, .sentinel, .sentinel, .sentinel], laidTests := true, laidLooks := .later }
def FnExactThinTrackUptoCardSaid : Prop := Claim7.holds Tryd.pinned (.plain (OpenSpec.upto fnExactThinTrackSpec)) fnExactThinTrackUptoCard

/-- THE SECOND FORM's CARD OF 'laws.FnExactTrackText'. -/
def fnExactTrackTextUptoCard : Claim7 := { stood := { row := fnExactTrackTextUptoRow, standIns := [], harness := (true, "d6b13ff6f5e31b00da0d0170f2da9f74e82e7eaaa375ca29e31cc316b6b9abaa"), looks := true }, kinds := [], alts := [], laidByText := true, laidKinds := [.data, .data, .data], laidTests := true, laidLooks := .later }
def FnExactTrackTextUptoCardSaid : Prop := Claim7.holds Tryd.pinned (.plain (OpenSpec.upto fnExactTrackTextSpec)) fnExactTrackTextUptoCard

/-- THE SECOND FORM's CARD OF 'laws.FnExactReadTrack'. -/
def fnExactReadTrackUptoCard : Claim7 := { stood := { row := fnExactReadTrackUptoRow, standIns := [], harness := (true, "d6b13ff6f5e31b00da0d0170f2da9f74e82e7eaaa375ca29e31cc316b6b9abaa"), looks := true }, kinds := [], alts := [], laidByText := true, laidKinds := [.data, .data, .data, .data, .sentinel, .sentinel, .sentinel, .sentinel, .sentinel, .sentinel, .sentinel, .pinned], laidTests := true, laidLooks := .later }
def FnExactReadTrackUptoCardSaid : Prop := Claim7.holds Tryd.pinned (.plain (OpenSpec.upto fnExactReadTrackSpec)) fnExactReadTrackUptoCard

/-- THE SECOND FORM's CARD OF 'laws.FnMorphs'. -/
def fnMorphsUptoCard : Claim7 := { stood := { row := fnMorphsUptoRow, standIns := [], harness := (true, "d6b13ff6f5e31b00da0d0170f2da9f74e82e7eaaa375ca29e31cc316b6b9abaa"), looks := true }, kinds := [], alts := [], laidByText := true, laidKinds := [.sentinel, .sentinel, .sentinel, .sentinel, .sentinel], laidTests := true, laidLooks := .later }
def FnMorphsUptoCardSaid : Prop := Claim7.holds Tryd.pinned (.plain (OpenSpec.upto fnMorphsSpec)) fnMorphsUptoCard
end Rows
end Go.Proofs.YtajlkleoincoeacDoor
