/-
  DERIVED. GIVEN WITH THE SEED: THE CARDS: each row of YtennmnkjdchbhaaDoorRows.lean that lists a variable, with what it lists TIED to the program's text (the seventh form; the later family's looks); each row that meets fmt, with fmt's text TOLD by the authors' own Lean function (tested against real Go, not proved from fmt's source: count such statements apart). THE CARD IS WHAT COUNTS. Prove the row's statement (the work); the ties are given (YtennmnkjdchbhaaDoorTie.lean); close each card by the builder's one call (the guide's Derived/Test/ToyasCard.lean, 'card_holds'). Laid BY PROGRAM, IN A SANDBOX (cutbox-door.mjs). By AI agents, Wed Nov 11 2026. No macro, syntax, notation, axiom, sorry.
-/
import Derived.Test.YtennmnkjdchbhaaDoorRows
import GoSem.ClaimSeven
namespace Go.Proofs.YtennmnkjdchbhaaDoor
namespace Rows

/-- THE TIED CARD OF 'laws.FnExactMiddleOf'. -/
def fnExactMiddleOfCard : Claim7 := { stood := { row := fnExactMiddleOfRow, standIns := [], harness := (true, "d913b3bff18eb9f04e7d6f3d6c2ed0a28786eeffcfffec04f4a9104517d280e4"), looks := true }, kinds := [], alts := [], laidByText := true, laidKinds := [.sentinel, .sentinel, .sentinel, .sentinel, .sentinel], laidTests := true, laidLooks := .later }
def FnExactMiddleOfCardSaid : Prop := Claim7.holds Tryd.pinned (.plain (OpenSpec.ofChange fnExactMiddleOfSpec)) fnExactMiddleOfCard

/-- THE TIED CARD OF 'laws.FnExactOrderText'. -/
def fnExactOrderTextCard : Claim7 := { stood := { row := fnExactOrderTextRow, standIns := [], harness := (true, "d913b3bff18eb9f04e7d6f3d6c2ed0a28786eeffcfffec04f4a9104517d280e4"), looks := true }, kinds := [], alts := [], laidByText := true, laidKinds := [.data, .data, .data], laidTests := true, laidLooks := .later }
def FnExactOrderTextCardSaid : Prop := Claim7.holds Tryd.pinned (.plain (OpenSpec.ofChange fnExactOrderTextSpec)) fnExactOrderTextCard

/-- THE SECOND FORM's CARD OF 'laws.FnExactMiddleOf'. -/
def fnExactMiddleOfUptoCard : Claim7 := { stood := { row := fnExactMiddleOfUptoRow, standIns := [], harness := (true, "d913b3bff18eb9f04e7d6f3d6c2ed0a28786eeffcfffec04f4a9104517d280e4"), looks := true }, kinds := [], alts := [], laidByText := true, laidKinds := [.sentinel, .sentinel, .sentinel, .sentinel, .sentinel], laidTests := true, laidLooks := .later }
def FnExactMiddleOfUptoCardSaid : Prop := Claim7.holds Tryd.pinned (.plain (OpenSpec.upto fnExactMiddleOfSpec)) fnExactMiddleOfUptoCard

/-- THE SECOND FORM's CARD OF 'laws.FnExactOrderText'. -/
def fnExactOrderTextUptoCard : Claim7 := { stood := { row := fnExactOrderTextUptoRow, standIns := [], harness := (true, "d913b3bff18eb9f04e7d6f3d6c2ed0a28786eeffcfffec04f4a9104517d280e4"), looks := true }, kinds := [], alts := [], laidByText := true, laidKinds := [.data, .data, .data], laidTests := true, laidLooks := .later }
def FnExactOrderTextUptoCardSaid : Prop := Claim7.holds Tryd.pinned (.plain (OpenSpec.upto fnExactOrderTextSpec)) fnExactOrderTextUptoCard
end Rows
end Go.Proofs.YtennmnkjdchbhaaDoor
