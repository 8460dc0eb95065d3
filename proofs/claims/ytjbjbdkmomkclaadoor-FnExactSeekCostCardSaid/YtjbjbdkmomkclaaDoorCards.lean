/-
  DERIVED. GIVEN WITH THE SEED: THE CARDS: each row of YtjbjbdkmomkclaaDoorRows.lean that lists a variable, with what it lists TIED to the program's text (the seventh form; the later family's looks); each row that meets fmt, with fmt's text TOLD by the authors' own Lean function (tested against real Go, not proved from fmt's source: count such statements apart). THE CARD IS WHAT COUNTS. Prove the row's statement (the work); the ties are given (YtjbjbdkmomkclaaDoorTie.lean); close each card by the builder's one call (the guide's Derived/Test/ToyasCard.lean, 'card_holds'). Laid BY PROGRAM, IN A SANDBOX (cutbox-door.mjs). By AI agents, Wed Nov 11 2026. No macro, syntax, notation, axiom, sorry.
-/
import Derived.Test.YtjbjbdkmomkclaaDoorRows
import GoSem.ClaimSeven
namespace Go.Proofs.YtjbjbdkmomkclaaDoor
namespace Rows

/-- THE TIED CARD OF 'laws.FnExactCostOf'. -/
def fnExactCostOfCard : Claim7 := { stood := { row := fnExactCostOfRow, standIns := [], harness := (true, "001de111b9bc43e0fa520088a3404a06bc7e35a54a59c65daada3945f7f2b837"), looks := false }, kinds := [], alts := [], laidByText := true, laidKinds := [.data], laidTests := true, laidLooks := .later }
def FnExactCostOfCardSaid : Prop := Claim7.holds Tryd.pinned (.plain (OpenSpec.ofChange fnExactCostOfSpec)) fnExactCostOfCard

/-- THE TIED CARD OF 'laws.FnExactStepsCost'. -/
def fnExactStepsCostCard : Claim7 := { stood := { row := fnExactStepsCostRow, standIns := [], harness := (true, "001de111b9bc43e0fa520088a3404a06bc7e35a54a59c65daada3945f7f2b837"), looks := false }, kinds := [], alts := [], laidByText := true, laidKinds := [.data], laidTests := true, laidLooks := .later }
def FnExactStepsCostCardSaid : Prop := Claim7.holds Tryd.pinned (.plain (OpenSpec.ofChange fnExactStepsCostSpec)) fnExactStepsCostCard

/-- THE TIED CARD OF 'laws.FnExactStrokesOf'. -/
def fnExactStrokesOfCard : Claim7 := { stood := { row := fnExactStrokesOfRow, standIns := [], harness := (true, "001de111b9bc43e0fa520088a3404a06bc7e35a54a59c65daada3945f7f2b837"), looks := false }, kinds := [], alts := [], laidByText := true, laidKinds := [.data], laidTests := true, laidLooks := .later }
def FnExactStrokesOfCardSaid : Prop := Claim7.holds Tryd.pinned (.plain (OpenSpec.ofChange fnExactStrokesOfSpec)) fnExactStrokesOfCard

/-- THE TIED CARD OF 'laws.FnExactFewestStrokes'. -/
def fnExactFewestStrokesCard : Claim7 := { stood := { row := fnExactFewestStrokesRow, standIns := [], harness := (true, "001de111b9bc43e0fa520088a3404a06bc7e35a54a59c65daada3945f7f2b837"), looks := false }, kinds := [], alts := [], laidByText := true, laidKinds := [.data], laidTests := true, laidLooks := .later }
def FnExactFewestStrokesCardSaid : Prop := Claim7.holds Tryd.pinned (.plain (OpenSpec.ofChange fnExactFewestStrokesSpec)) fnExactFewestStrokesCard

/-- THE TIED CARD OF 'laws.FnExactSeekCost'. -/
def fnExactSeekCostCard : Claim7 := { stood := { row := fnExactSeekCostRow, standIns := [], harness := (true, "001de111b9bc43e0fa520088a3404a06bc7e35a54a59c65daada3945f7f2b837"), looks := false }, kinds := [], alts := [], laidByText := true, laidKinds := [.data], laidTests := true, laidLooks := .later }
def FnExactSeekCostCardSaid : Prop := Claim7.holds Tryd.pinned (.plain (OpenSpec.ofChange fnExactSeekCostSpec)) fnExactSeekCostCard

/-- THE SECOND FORM's CARD OF 'laws.FnExactCostOf'. -/
def fnExactCostOfUptoCard : Claim7 := { stood := { row := fnExactCostOfUptoRow, standIns := [], harness := (true, "001de111b9bc43e0fa520088a3404a06bc7e35a54a59c65daada3945f7f2b837"), looks := false }, kinds := [], alts := [], laidByText := true, laidKinds := [.data], laidTests := true, laidLooks := .later }
def FnExactCostOfUptoCardSaid : Prop := Claim7.holds Tryd.pinned (.plain (OpenSpec.upto fnExactCostOfSpec)) fnExactCostOfUptoCard

/-- THE SECOND FORM's CARD OF 'laws.FnExactStepsCost'. -/
def fnExactStepsCostUptoCard : Claim7 := { stood := { row := fnExactStepsCostUptoRow, standIns := [], harness := (true, "001de111b9bc43e0fa520088a3404a06bc7e35a54a59c65daada3945f7f2b837"), looks := false }, kinds := [], alts := [], laidByText := true, laidKinds := [.data], laidTests := true, laidLooks := .later }
def FnExactStepsCostUptoCardSaid : Prop := Claim7.holds Tryd.pinned (.plain (OpenSpec.upto fnExactStepsCostSpec)) fnExactStepsCostUptoCard

/-- THE SECOND FORM's CARD OF 'laws.FnExactStrokesOf'. -/
def fnExactStrokesOfUptoCard : Claim7 := { stood := { row := fnExactStrokesOfUptoRow, standIns := [], harness := (true, "001de111b9bc43e0fa520088a3404a06bc7e35a54a59c65daada3945f7f2b837"), looks := false }, kinds := [], alts := [], laidByText := true, laidKinds := [.data], laidTests := true, laidLooks := .later }
def FnExactStrokesOfUptoCardSaid : Prop := Claim7.holds Tryd.pinned (.plain (OpenSpec.upto fnExactStrokesOfSpec)) fnExactStrokesOfUptoCard

/-- THE SECOND FORM's CARD OF 'laws.FnExactFewestStrokes'. -/
def fnExactFewestStrokesUptoCard : Claim7 := { stood := { row := fnExactFewestStrokesUptoRow, standIns := [], harness := (true, "001de111b9bc43e0fa520088a3404a06bc7e35a54a59c65daada3945f7f2b837"), looks := false }, kinds := [], alts := [], laidByText := true, laidKinds := [.data], laidTests := true, laidLooks := .later }
def FnExactFewestStrokesUptoCardSaid : Prop := Claim7.holds Tryd.pinned (.plain (OpenSpec.upto fnExactFewestStrokesSpec)) fnExactFewestStrokesUptoCard

/-- THE SECOND FORM's CARD OF 'laws.FnExactSeekCost'. -/
def fnExactSeekCostUptoCard : Claim7 := { stood := { row := fnExactSeekCostUptoRow, standIns := [], harness := (true, "001de111b9bc43e0fa520088a3404a06bc7e35a54a59c65daada3945f7f2b837"), looks := false }, kinds := [], alts := [], laidByText := true, laidKinds := [.data], laidTests := true, laidLooks := .later }
def FnExactSeekCostUptoCardSaid : Prop := Claim7.holds Tryd.pinned (.plain (OpenSpec.upto fnExactSeekCostSpec)) fnExactSeekCostUptoCard
end Rows
end Go.Proofs.YtjbjbdkmomkclaaDoor
