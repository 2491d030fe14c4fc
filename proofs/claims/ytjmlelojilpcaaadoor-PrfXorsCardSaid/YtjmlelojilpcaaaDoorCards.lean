/-
  DERIVED. GIVEN WITH THE SEED: THE CARDS: each row of YtjmlelojilpcaaaDoorRows.lean that lists a variable, with what it lists TIED to the program's text (the seventh form; the later family's looks); each row that meets fmt, with fmt's text TOLD by the authors' own Lean function (tested against real Go, not proved from fmt's source: count such statements apart). THE CARD IS WHAT COUNTS. Prove the row's statement (the work); the ties are given (YtjmlelojilpcaaaDoorTie.lean); close each card by the builder's one call (the guide's Derived/Test/ToyasCard.lean, 'card_holds'). Laid BY PROGRAM, IN A SANDBOX (cutbox-door.mjs). By AI agents, Wed Nov 11 2026. No macro, syntax, notation, axiom, sorry.
-/
import Derived.Test.YtjmlelojilpcaaaDoorRows
import GoSem.ClaimSeven
namespace Go.Proofs.YtjmlelojilpcaaaDoor
namespace Rows

/-- THE TIED CARD OF 'portreevelaw05.PrfKeyed'. -/
def prfKeyedCard : Claim7 := { stood := { row := prfKeyedRow, standIns := [], harness := (true, "2d9a2d941e8946e46f76ccccf4ba1c7955e21c723949b0f17110f45a42f4f415"), looks := false }, kinds := [], alts := [], laidByText := true, laidKinds := [.data, .data], laidTests := true, laidLooks := .later }
def PrfKeyedCardSaid : Prop := Claim7.holds Tryd.pinned (.plain (OpenSpec.ofChange prfKeyedSpec)) prfKeyedCard

/-- THE TIED CARD OF 'portreevelaw05.PrfNodes'. -/
def prfNodesCard : Claim7 := { stood := { row := prfNodesRow, standIns := [], harness := (true, "2d9a2d941e8946e46f76ccccf4ba1c7955e21c723949b0f17110f45a42f4f415"), looks := false }, kinds := [], alts := [], laidByText := true, laidKinds := [.data, .data], laidTests := true, laidLooks := .later }
def PrfNodesCardSaid : Prop := Claim7.holds Tryd.pinned (.plain (OpenSpec.ofChange prfNodesSpec)) prfNodesCard

/-- THE TIED CARD OF 'portreevelaw05.PrfMsgs'. -/
def prfMsgsCard : Claim7 := { stood := { row := prfMsgsRow, standIns := [], harness := (true, "2d9a2d941e8946e46f76ccccf4ba1c7955e21c723949b0f17110f45a42f4f415"), looks := false }, kinds := [], alts := [], laidByText := true, laidKinds := [.data, .data], laidTests := true, laidLooks := .later }
def PrfMsgsCardSaid : Prop := Claim7.holds Tryd.pinned (.plain (OpenSpec.ofChange prfMsgsSpec)) prfMsgsCard

/-- THE TIED CARD OF 'portreevelaw05.PrfRands'. -/
def prfRandsCard : Claim7 := { stood := { row := prfRandsRow, standIns := [], harness := (true, "2d9a2d941e8946e46f76ccccf4ba1c7955e21c723949b0f17110f45a42f4f415"), looks := false }, kinds := [], alts := [], laidByText := true, laidKinds := [.data, .data], laidTests := true, laidLooks := .later }
def PrfRandsCardSaid : Prop := Claim7.holds Tryd.pinned (.plain (OpenSpec.ofChange prfRandsSpec)) prfRandsCard

/-- THE TIED CARD OF 'portreevelaw05.PrfXors'. -/
def prfXorsCard : Claim7 := { stood := { row := prfXorsRow, standIns := [], harness := (true, "2d9a2d941e8946e46f76ccccf4ba1c7955e21c723949b0f17110f45a42f4f415"), looks := false }, kinds := [], alts := [], laidByText := true, laidKinds := [.data, .data], laidTests := true, laidLooks := .later }
def PrfXorsCardSaid : Prop := Claim7.holds Tryd.pinned (.plain (OpenSpec.ofChange prfXorsSpec)) prfXorsCard

/-- THE SECOND FORM's CARD OF 'portreevelaw05.PrfKeyed'. -/
def prfKeyedUptoCard : Claim7 := { stood := { row := prfKeyedUptoRow, standIns := [], harness := (true, "2d9a2d941e8946e46f76ccccf4ba1c7955e21c723949b0f17110f45a42f4f415"), looks := false }, kinds := [], alts := [], laidByText := true, laidKinds := [.data, .data], laidTests := true, laidLooks := .later }
def PrfKeyedUptoCardSaid : Prop := Claim7.holds Tryd.pinned (.plain (OpenSpec.upto prfKeyedSpec)) prfKeyedUptoCard

/-- THE SECOND FORM's CARD OF 'portreevelaw05.PrfNodes'. -/
def prfNodesUptoCard : Claim7 := { stood := { row := prfNodesUptoRow, standIns := [], harness := (true, "2d9a2d941e8946e46f76ccccf4ba1c7955e21c723949b0f17110f45a42f4f415"), looks := false }, kinds := [], alts := [], laidByText := true, laidKinds := [.data, .data], laidTests := true, laidLooks := .later }
def PrfNodesUptoCardSaid : Prop := Claim7.holds Tryd.pinned (.plain (OpenSpec.upto prfNodesSpec)) prfNodesUptoCard

/-- THE SECOND FORM's CARD OF 'portreevelaw05.PrfMsgs'. -/
def prfMsgsUptoCard : Claim7 := { stood := { row := prfMsgsUptoRow, standIns := [], harness := (true, "2d9a2d941e8946e46f76ccccf4ba1c7955e21c723949b0f17110f45a42f4f415"), looks := false }, kinds := [], alts := [], laidByText := true, laidKinds := [.data, .data], laidTests := true, laidLooks := .later }
def PrfMsgsUptoCardSaid : Prop := Claim7.holds Tryd.pinned (.plain (OpenSpec.upto prfMsgsSpec)) prfMsgsUptoCard

/-- THE SECOND FORM's CARD OF 'portreevelaw05.PrfRands'. -/
def prfRandsUptoCard : Claim7 := { stood := { row := prfRandsUptoRow, standIns := [], harness := (true, "2d9a2d941e8946e46f76ccccf4ba1c7955e21c723949b0f17110f45a42f4f415"), looks := false }, kinds := [], alts := [], laidByText := true, laidKinds := [.data, .data], laidTests := true, laidLooks := .later }
def PrfRandsUptoCardSaid : Prop := Claim7.holds Tryd.pinned (.plain (OpenSpec.upto prfRandsSpec)) prfRandsUptoCard

/-- THE SECOND FORM's CARD OF 'portreevelaw05.PrfXors'. -/
def prfXorsUptoCard : Claim7 := { stood := { row := prfXorsUptoRow, standIns := [], harness := (true, "2d9a2d941e8946e46f76ccccf4ba1c7955e21c723949b0f17110f45a42f4f415"), looks := false }, kinds := [], alts := [], laidByText := true, laidKinds := [.data, .data], laidTests := true, laidLooks := .later }
def PrfXorsUptoCardSaid : Prop := Claim7.holds Tryd.pinned (.plain (OpenSpec.upto prfXorsSpec)) prfXorsUptoCard
end Rows
end Go.Proofs.YtjmlelojilpcaaaDoor
