/-
  DERIVED. GIVEN WITH THE SEED: THE CARDS: each row of YtgoblolbkchggaaDoorRows.lean that lists a variable, with what it lists TIED to the program's text (the seventh form; the later family's looks); each row that meets fmt, with fmt's text TOLD by the authors' own Lean function (tested against real Go, not proved from fmt's source: count such statements apart). THE CARD IS WHAT COUNTS. Prove the row's statement (the work); the ties are given (YtgoblolbkchggaaDoorTie.lean); close each card by the builder's one call (the guide's Derived/Test/ToyasCard.lean, 'card_holds'). Laid BY PROGRAM, IN A SANDBOX (cutbox-door.mjs). By AI agents, Wed Nov 11 2026. No macro, syntax, notation, axiom, sorry.
-/
import Derived.Test.YtgoblolbkchggaaDoorRows
import GoSem.ClaimSeven
namespace Go.Proofs.YtgoblolbkchggaaDoor
namespace Rows

/-- THE TIED CARD OF 'portreevelaw15.ImgHeaders'. -/
def imgHeadersCard : Claim7 := { stood := { row := imgHeadersRow, standIns := [], harness := (true, "0d8d2ee012f603344f5ca4d9f28b26996dac91929cccba984abb8847ff5bec43"), looks := false }, kinds := [], alts := [], laidByText := true, laidKinds := [.data, .pinned], laidTests := true, laidLooks := .later }
def ImgHeadersCardSaid : Prop := Claim7.holds Tryd.pinned (.plain (OpenSpec.ofChange imgHeadersSpec)) imgHeadersCard

/-- THE TIED CARD OF 'portreevelaw15.ImgBack'. -/
def imgBackCard : Claim7 := { stood := { row := imgBackRow, standIns := [], harness := (true, "0d8d2ee012f603344f5ca4d9f28b26996dac91929cccba984abb8847ff5bec43"), looks := false }, kinds := [], alts := [], laidByText := true, laidKinds := [.data, .pinned], laidTests := true, laidLooks := .later }
def ImgBackCardSaid : Prop := Claim7.holds Tryd.pinned (.plain (OpenSpec.ofChange imgBackSpec)) imgBackCard

/-- THE TIED CARD OF 'portreevelaw15.ImgSplits'. -/
def imgSplitsCard : Claim7 := { stood := { row := imgSplitsRow, standIns := [], harness := (true, "0d8d2ee012f603344f5ca4d9f28b26996dac91929cccba984abb8847ff5bec43"), looks := false }, kinds := [], alts := [], laidByText := true, laidKinds := [.data, .pinned], laidTests := true, laidLooks := .later }
def ImgSplitsCardSaid : Prop := Claim7.holds Tryd.pinned (.plain (OpenSpec.ofChange imgSplitsSpec)) imgSplitsCard

/-- THE TIED CARD OF 'portreevelaw15.ImgPacks'. -/
def imgPacksCard : Claim7 := { stood := { row := imgPacksRow, standIns := [], harness := (true, "0d8d2ee012f603344f5ca4d9f28b26996dac91929cccba984abb8847ff5bec43"), looks := false }, kinds := [], alts := [], laidByText := true, laidKinds := [.data, .pinned], laidTests := true, laidLooks := .later }
def ImgPacksCardSaid : Prop := Claim7.holds Tryd.pinned (.plain (OpenSpec.ofChange imgPacksSpec)) imgPacksCard

/-- THE SECOND FORM's CARD OF 'portreevelaw15.ImgHeaders'. -/
def imgHeadersUptoCard : Claim7 := { stood := { row := imgHeadersUptoRow, standIns := [], harness := (true, "0d8d2ee012f603344f5ca4d9f28b26996dac91929cccba984abb8847ff5bec43"), looks := false }, kinds := [], alts := [], laidByText := true, laidKinds := [.data, .pinned], laidTests := true, laidLooks := .later }
def ImgHeadersUptoCardSaid : Prop := Claim7.holds Tryd.pinned (.plain (OpenSpec.upto imgHeadersSpec)) imgHeadersUptoCard

/-- THE SECOND FORM's CARD OF 'portreevelaw15.ImgBack'. -/
def imgBackUptoCard : Claim7 := { stood := { row := imgBackUptoRow, standIns := [], harness := (true, "0d8d2ee012f603344f5ca4d9f28b26996dac91929cccba984abb8847ff5bec43"), looks := false }, kinds := [], alts := [], laidByText := true, laidKinds := [.data, .pinned], laidTests := true, laidLooks := .later }
def ImgBackUptoCardSaid : Prop := Claim7.holds Tryd.pinned (.plain (OpenSpec.upto imgBackSpec)) imgBackUptoCard

/-- THE SECOND FORM's CARD OF 'portreevelaw15.ImgSplits'. -/
def imgSplitsUptoCard : Claim7 := { stood := { row := imgSplitsUptoRow, standIns := [], harness := (true, "0d8d2ee012f603344f5ca4d9f28b26996dac91929cccba984abb8847ff5bec43"), looks := false }, kinds := [], alts := [], laidByText := true, laidKinds := [.data, .pinned], laidTests := true, laidLooks := .later }
def ImgSplitsUptoCardSaid : Prop := Claim7.holds Tryd.pinned (.plain (OpenSpec.upto imgSplitsSpec)) imgSplitsUptoCard

/-- THE SECOND FORM's CARD OF 'portreevelaw15.ImgPacks'. -/
def imgPacksUptoCard : Claim7 := { stood := { row := imgPacksUptoRow, standIns := [], harness := (true, "0d8d2ee012f603344f5ca4d9f28b26996dac91929cccba984abb8847ff5bec43"), looks := false }, kinds := [], alts := [], laidByText := true, laidKinds := [.data, .pinned], laidTests := true, laidLooks := .later }
def ImgPacksUptoCardSaid : Prop := Claim7.holds Tryd.pinned (.plain (OpenSpec.upto imgPacksSpec)) imgPacksUptoCard
end Rows
end Go.Proofs.YtgoblolbkchggaaDoor
