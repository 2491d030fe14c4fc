/-
  DERIVED. GIVEN WITH THE SEED: THE CARDS: each row of YtepgndgelfkcnaaDoorRows.lean that lists a variable, with what it lists TIED to the program's text (the seventh form; the later family's looks); each row that meets fmt, with fmt's text TOLD by the authors' own Lean function (tested against real Go, not proved from fmt's source: count such statements apart). THE CARD IS WHAT COUNTS. Prove the row's statement (the work); the ties are given (YtepgndgelfkcnaaDoorTie.lean); close each card by the builder's one call (the guide's Derived/Test/ToyasCard.lean, 'card_holds'). Laid BY PROGRAM, IN A SANDBOX (cutbox-door.mjs). By AI agents, Wed Nov 11 2026. No macro, syntax, notation, axiom, sorry.
-/
import Derived.Test.YtepgndgelfkcnaaDoorRows
import GoSem.ClaimSeven
namespace Go.Proofs.YtepgndgelfkcnaaDoor
namespace Rows

/-- THE TIED CARD OF 'portreevelaw06.WotsChains'. -/
def wotsChainsCard : Claim7 := { stood := { row := wotsChainsRow, standIns := [], harness := (true, "0c2e1d790c67c1dd482d5304ab187eded449452218841a063e17f4e9f1cbffce"), looks := false }, kinds := [], alts := [], laidByText := true, laidKinds := [.data, .data], laidTests := true, laidLooks := .later }
def WotsChainsCardSaid : Prop := Claim7.holds Tryd.pinned (.plain (OpenSpec.ofChange wotsChainsSpec)) wotsChainsCard

/-- THE TIED CARD OF 'portreevelaw06.WotsSteps'. -/
def wotsStepsCard : Claim7 := { stood := { row := wotsStepsRow, standIns := [], harness := (true, "0c2e1d790c67c1dd482d5304ab187eded449452218841a063e17f4e9f1cbffce"), looks := false }, kinds := [], alts := [], laidByText := true, laidKinds := [.data, .data], laidTests := true, laidLooks := .later }
def WotsStepsCardSaid : Prop := Claim7.holds Tryd.pinned (.plain (OpenSpec.ofChange wotsStepsSpec)) wotsStepsCard

/-- THE TIED CARD OF 'portreevelaw06.WotsPublic'. -/
def wotsPublicCard : Claim7 := { stood := { row := wotsPublicRow, standIns := [], harness := (true, "0c2e1d790c67c1dd482d5304ab187eded449452218841a063e17f4e9f1cbffce"), looks := false }, kinds := [], alts := [], laidByText := true, laidKinds := [.data, .data], laidTests := true, laidLooks := .later }
def WotsPublicCardSaid : Prop := Claim7.holds Tryd.pinned (.plain (OpenSpec.ofChange wotsPublicSpec)) wotsPublicCard

/-- THE TIED CARD OF 'portreevelaw06.WotsSigns'. -/
def wotsSignsCard : Claim7 := { stood := { row := wotsSignsRow, standIns := [], harness := (true, "0c2e1d790c67c1dd482d5304ab187eded449452218841a063e17f4e9f1cbffce"), looks := false }, kinds := [], alts := [], laidByText := true, laidKinds := [.data, .data], laidTests := true, laidLooks := .later }
def WotsSignsCardSaid : Prop := Claim7.holds Tryd.pinned (.plain (OpenSpec.ofChange wotsSignsSpec)) wotsSignsCard

/-- THE TIED CARD OF 'portreevelaw06.WotsKeys'. -/
def wotsKeysCard : Claim7 := { stood := { row := wotsKeysRow, standIns := [], harness := (true, "0c2e1d790c67c1dd482d5304ab187eded449452218841a063e17f4e9f1cbffce"), looks := false }, kinds := [], alts := [], laidByText := true, laidKinds := [.data, .data], laidTests := true, laidLooks := .later }
def WotsKeysCardSaid : Prop := Claim7.holds Tryd.pinned (.plain (OpenSpec.ofChange wotsKeysSpec)) wotsKeysCard

/-- THE SECOND FORM's CARD OF 'portreevelaw06.WotsChains'. -/
def wotsChainsUptoCard : Claim7 := { stood := { row := wotsChainsUptoRow, standIns := [], harness := (true, "0c2e1d790c67c1dd482d5304ab187eded449452218841a063e17f4e9f1cbffce"), looks := false }, kinds := [], alts := [], laidByText := true, laidKinds := [.data, .data], laidTests := true, laidLooks := .later }
def WotsChainsUptoCardSaid : Prop := Claim7.holds Tryd.pinned (.plain (OpenSpec.upto wotsChainsSpec)) wotsChainsUptoCard

/-- THE SECOND FORM's CARD OF 'portreevelaw06.WotsSteps'. -/
def wotsStepsUptoCard : Claim7 := { stood := { row := wotsStepsUptoRow, standIns := [], harness := (true, "0c2e1d790c67c1dd482d5304ab187eded449452218841a063e17f4e9f1cbffce"), looks := false }, kinds := [], alts := [], laidByText := true, laidKinds := [.data, .data], laidTests := true, laidLooks := .later }
def WotsStepsUptoCardSaid : Prop := Claim7.holds Tryd.pinned (.plain (OpenSpec.upto wotsStepsSpec)) wotsStepsUptoCard

/-- THE SECOND FORM's CARD OF 'portreevelaw06.WotsPublic'. -/
def wotsPublicUptoCard : Claim7 := { stood := { row := wotsPublicUptoRow, standIns := [], harness := (true, "0c2e1d790c67c1dd482d5304ab187eded449452218841a063e17f4e9f1cbffce"), looks := false }, kinds := [], alts := [], laidByText := true, laidKinds := [.data, .data], laidTests := true, laidLooks := .later }
def WotsPublicUptoCardSaid : Prop := Claim7.holds Tryd.pinned (.plain (OpenSpec.upto wotsPublicSpec)) wotsPublicUptoCard

/-- THE SECOND FORM's CARD OF 'portreevelaw06.WotsSigns'. -/
def wotsSignsUptoCard : Claim7 := { stood := { row := wotsSignsUptoRow, standIns := [], harness := (true, "0c2e1d790c67c1dd482d5304ab187eded449452218841a063e17f4e9f1cbffce"), looks := false }, kinds := [], alts := [], laidByText := true, laidKinds := [.data, .data], laidTests := true, laidLooks := .later }
def WotsSignsUptoCardSaid : Prop := Claim7.holds Tryd.pinned (.plain (OpenSpec.upto wotsSignsSpec)) wotsSignsUptoCard

/-- THE SECOND FORM's CARD OF 'portreevelaw06.WotsKeys'. -/
def wotsKeysUptoCard : Claim7 := { stood := { row := wotsKeysUptoRow, standIns := [], harness := (true, "0c2e1d790c67c1dd482d5304ab187eded449452218841a063e17f4e9f1cbffce"), looks := false }, kinds := [], alts := [], laidByText := true, laidKinds := [.data, .data], laidTests := true, laidLooks := .later }
def WotsKeysUptoCardSaid : Prop := Claim7.holds Tryd.pinned (.plain (OpenSpec.upto wotsKeysSpec)) wotsKeysUptoCard
end Rows
end Go.Proofs.YtepgndgelfkcnaaDoor
