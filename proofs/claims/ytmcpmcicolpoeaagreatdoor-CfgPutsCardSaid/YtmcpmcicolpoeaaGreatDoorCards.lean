/-
  DERIVED. GIVEN WITH THE SEED: THE CARDS: each row of YtmcpmcicolpoeaaGreatDoorRows.lean that lists a variable, with what it lists TIED to the program's text (the seventh form; the later family's looks); each row that meets fmt, with fmt's text TOLD by the authors' own Lean function (tested against real Go, not proved from fmt's source: count such statements apart). THE CARD IS WHAT COUNTS. Prove the row's statement (the work); the ties are given (YtmcpmcicolpoeaaGreatDoorTie.lean); close each card by the builder's one call (the guide's Derived/Test/ToyasCard.lean, 'card_holds'). Laid BY PROGRAM, IN A SANDBOX (cutbox-door.mjs). By AI agents, Wed Nov 11 2026. No macro, syntax, notation, axiom, sorry.
-/
import Derived.Test.YtmcpmcicolpoeaaGreatDoorRows
import GoSem.ClaimSeven
namespace Go.Proofs.YtmcpmcicolpoeaaGreatDoor
namespace Rows

/-- THE TIED CARD OF 'portreevelaw14.CfgPuts'. -/
def cfgPutsCard : Claim7 := { stood := { row := cfgPutsRow, standIns := [], harness := (true, "ff4941be81c5572a1a89e25ec52c83575c20d239edd823fe4354be33ee7dd871"), looks := true }, kinds := [], alts := [], laidByText := true, laidKinds := [.data, .pinned], laidTests := true, laidLooks := .later }
def CfgPutsCardSaid : Prop := Claim7.holds Tryz.pinned (.plain (OpenSpec.ofChange cfgPutsSpec)) cfgPutsCard

/-- THE TIED CARD OF 'portreevelaw14.CfgBack'. -/
def cfgBackCard : Claim7 := { stood := { row := cfgBackRow, standIns := [], harness := (true, "ff4941be81c5572a1a89e25ec52c83575c20d239edd823fe4354be33ee7dd871"), looks := true }, kinds := [], alts := [], laidByText := true, laidKinds := [.data, .pinned], laidTests := true, laidLooks := .later }
def CfgBackCardSaid : Prop := Claim7.holds Tryz.pinned (.plain (OpenSpec.ofChange cfgBackSpec)) cfgBackCard

/-- THE SECOND FORM's CARD OF 'portreevelaw14.CfgPuts'. -/
def cfgPutsUptoCard : Claim7 := { stood := { row := cfgPutsUptoRow, standIns := [], harness := (true, "ff4941be81c5572a1a89e25ec52c83575c20d239edd823fe4354be33ee7dd871"), looks := true }, kinds := [], alts := [], laidByText := true, laidKinds := [.data, .pinned], laidTests := true, laidLooks := .later }
def CfgPutsUptoCardSaid : Prop := Claim7.holds Tryz.pinned (.plain (OpenSpec.upto cfgPutsSpec)) cfgPutsUptoCard

/-- THE SECOND FORM's CARD OF 'portreevelaw14.CfgBack'. -/
def cfgBackUptoCard : Claim7 := { stood := { row := cfgBackUptoRow, standIns := [], harness := (true, "ff4941be81c5572a1a89e25ec52c83575c20d239edd823fe4354be33ee7dd871"), looks := true }, kinds := [], alts := [], laidByText := true, laidKinds := [.data, .pinned], laidTests := true, laidLooks := .later }
def CfgBackUptoCardSaid : Prop := Claim7.holds Tryz.pinned (.plain (OpenSpec.upto cfgBackSpec)) cfgBackUptoCard
end Rows
end Go.Proofs.YtmcpmcicolpoeaaGreatDoor
