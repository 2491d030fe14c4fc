/-
  DERIVED. GIVEN WITH THE SEED: THE CARDS: each row of YtfeiplaiekbdkaaDoorRows.lean that lists a variable, with what it lists TIED to the program's text (the seventh form; the later family's looks); each row that meets fmt, with fmt's text TOLD by the authors' own Lean function (tested against real Go, not proved from fmt's source: count such statements apart). THE CARD IS WHAT COUNTS. Prove the row's statement (the work); the ties are given (YtfeiplaiekbdkaaDoorTie.lean); close each card by the builder's one call (the guide's Derived/Test/ToyasCard.lean, 'card_holds'). Laid BY PROGRAM, IN A SANDBOX (cutbox-door.mjs). By AI agents, Wed Nov 11 2026. No macro, syntax, notation, axiom, sorry.
-/
import Derived.Test.YtfeiplaiekbdkaaDoorRows
import GoSem.ClaimSeven
namespace Go.Proofs.YtfeiplaiekbdkaaDoor
namespace Rows

/-- THE TIED CARD OF 'portreevelaw08.XmssMakes'. -/
def xmssMakesCard : Claim7 := { stood := { row := xmssMakesRow, standIns := [], harness := (true, "aff866f81843710011bdd03067671d2e1d66c8b85aaf9aa76be868385c0f5da2"), looks := false }, kinds := [], alts := [], laidByText := true, laidKinds := [.data, .data], laidTests := true, laidLooks := .later }
def XmssMakesCardSaid : Prop := Claim7.holds Tryd.pinned (.plain (OpenSpec.ofChange xmssMakesSpec)) xmssMakesCard

/-- THE SECOND FORM's CARD OF 'portreevelaw08.XmssMakes'. -/
def xmssMakesUptoCard : Claim7 := { stood := { row := xmssMakesUptoRow, standIns := [], harness := (true, "aff866f81843710011bdd03067671d2e1d66c8b85aaf9aa76be868385c0f5da2"), looks := false }, kinds := [], alts := [], laidByText := true, laidKinds := [.data, .data], laidTests := true, laidLooks := .later }
def XmssMakesUptoCardSaid : Prop := Claim7.holds Tryd.pinned (.plain (OpenSpec.upto xmssMakesSpec)) xmssMakesUptoCard
end Rows
end Go.Proofs.YtfeiplaiekbdkaaDoor
