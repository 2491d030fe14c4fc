/-
  DERIVED. GIVEN WITH THE SEED: THE CARDS: each row of YtfeiplaiekbdkaaGreatDoorRows.lean that lists a variable, with what it lists TIED to the program's text (the seventh form; the later family's looks); each row that meets fmt, with fmt's text TOLD by the authors' own Lean function (tested against real Go, not proved from fmt's source: count such statements apart). THE CARD IS WHAT COUNTS. Prove the row's statement (the work); the ties are given (YtfeiplaiekbdkaaGreatDoorTie.lean); close each card by the builder's one call (the guide's Derived/Test/ToyasCard.lean, 'card_holds'). Laid BY PROGRAM, IN A SANDBOX (cutbox-door.mjs). By AI agents, Wed Nov 11 2026. No macro, syntax, notation, axiom, sorry.
-/
import Derived.Test.YtfeiplaiekbdkaaGreatDoorRows
import GoSem.ClaimSeven
namespace Go.Proofs.YtfeiplaiekbdkaaGreatDoor
namespace Rows

/-- THE TIED CARD OF 'portreevelaw08.XmssVerifies'. -/
def xmssVerifiesCard : Claim7 := { stood := { row := xmssVerifiesRow, standIns := [], harness := (true, "8467f6941f0081c60b69712130c4e6ba007601577917e9832fa58da74630078a"), looks := false }, kinds := [], alts := [], laidByText := true, laidKinds := [.data, .data], laidTests := true, laidLooks := .later }
def XmssVerifiesCardSaid : Prop := Claim7.holds Tryz.pinned (.plain (OpenSpec.ofChange xmssVerifiesSpec)) xmssVerifiesCard

/-- THE TIED CARD OF 'portreevelaw08.XmssSigns'. -/
def xmssSignsCard : Claim7 := { stood := { row := xmssSignsRow, standIns := [], harness := (true, "8467f6941f0081c60b69712130c4e6ba007601577917e9832fa58da74630078a"), looks := false }, kinds := [], alts := [], laidByText := true, laidKinds := [.data, .data], laidTests := true, laidLooks := .later }
def XmssSignsCardSaid : Prop := Claim7.holds Tryz.pinned (.plain (OpenSpec.ofChange xmssSignsSpec)) xmssSignsCard

/-- THE SECOND FORM's CARD OF 'portreevelaw08.XmssVerifies'. -/
def xmssVerifiesUptoCard : Claim7 := { stood := { row := xmssVerifiesUptoRow, standIns := [], harness := (true, "8467f6941f0081c60b69712130c4e6ba007601577917e9832fa58da74630078a"), looks := false }, kinds := [], alts := [], laidByText := true, laidKinds := [.data, .data], laidTests := true, laidLooks := .later }
def XmssVerifiesUptoCardSaid : Prop := Claim7.holds Tryz.pinned (.plain (OpenSpec.upto xmssVerifiesSpec)) xmssVerifiesUptoCard

/-- THE SECOND FORM's CARD OF 'portreevelaw08.XmssSigns'. -/
def xmssSignsUptoCard : Claim7 := { stood := { row := xmssSignsUptoRow, standIns := [], harness := (true, "8467f6941f0081c60b69712130c4e6ba007601577917e9832fa58da74630078a"), looks := false }, kinds := [], alts := [], laidByText := true, laidKinds := [.data, .data], laidTests := true, laidLooks := .later }
def XmssSignsUptoCardSaid : Prop := Claim7.holds Tryz.pinned (.plain (OpenSpec.upto xmssSignsSpec)) xmssSignsUptoCard
end Rows
end Go.Proofs.YtfeiplaiekbdkaaGreatDoor
