/-
  DERIVED. GIVEN WITH THE SEED: THE CARDS: each row of YtmcpmcicolpoeaaDoorRows.lean that lists a variable, with what it lists TIED to the program's text (the seventh form; the later family's looks); each row that meets fmt, with fmt's text TOLD by the authors' own Lean function (tested against real Go, not proved from fmt's source: count such statements apart). THE CARD IS WHAT COUNTS. Prove the row's statement (the work); the ties are given (YtmcpmcicolpoeaaDoorTie.lean); close each card by the builder's one call (the guide's Derived/Test/ToyasCard.lean, 'card_holds'). Laid BY PROGRAM, IN A SANDBOX (cutbox-door.mjs). By AI agents, Wed Nov 11 2026. No macro, syntax, notation, axiom, sorry.
-/
import Derived.Test.YtmcpmcicolpoeaaDoorRows
import GoSem.ClaimSeven
namespace Go.Proofs.YtmcpmcicolpoeaaDoor
namespace Rows

/-- THE TIED CARD OF 'portreevelaw14.CfgParses'. -/
def cfgParsesCard : Claim7 := { stood := { row := cfgParsesRow, standIns := [], harness := (true, "934b3fd04e36b7935e0abaa77623faf15dfd0f3c3b6c000f31c1f58787a82fd4"), looks := true }, kinds := [], alts := [], laidByText := true, laidKinds := [.data, .pinned], laidTests := true, laidLooks := .later }
def CfgParsesCardSaid : Prop := Claim7.holds Tryd.pinned (.plain (OpenSpec.ofChange cfgParsesSpec)) cfgParsesCard

/-- THE TIED CARD OF 'portreevelaw14.CfgOnce'. -/
def cfgOnceCard : Claim7 := { stood := { row := cfgOnceRow, standIns := [], harness := (true, "934b3fd04e36b7935e0abaa77623faf15dfd0f3c3b6c000f31c1f58787a82fd4"), looks := true }, kinds := [], alts := [], laidByText := true, laidKinds := [.data, .pinned], laidTests := true, laidLooks := .later }
def CfgOnceCardSaid : Prop := Claim7.holds Tryd.pinned (.plain (OpenSpec.ofChange cfgOnceSpec)) cfgOnceCard

/-- THE TIED CARD OF 'portreevelaw14.CfgCuts'. -/
def cfgCutsCard : Claim7 := { stood := { row := cfgCutsRow, standIns := [], harness := (true, "934b3fd04e36b7935e0abaa77623faf15dfd0f3c3b6c000f31c1f58787a82fd4"), looks := true }, kinds := [], alts := [], laidByText := true, laidKinds := [.data, .pinned], laidTests := true, laidLooks := .later }
def CfgCutsCardSaid : Prop := Claim7.holds Tryd.pinned (.plain (OpenSpec.ofChange cfgCutsSpec)) cfgCutsCard

/-- THE TIED CARD OF 'portreevelaw14.CfgTells'. -/
def cfgTellsCard : Claim7 := { stood := { row := cfgTellsRow, standIns := [], harness := (true, "934b3fd04e36b7935e0abaa77623faf15dfd0f3c3b6c000f31c1f58787a82fd4"), looks := true }, kinds := [], alts := [], laidByText := true, laidKinds := [.data, .pinned], laidTests := true, laidLooks := .later }
def CfgTellsCardSaid : Prop := Claim7.holds Tryd.pinned (.plain (OpenSpec.ofChange cfgTellsSpec)) cfgTellsCard

/-- THE SECOND FORM's CARD OF 'portreevelaw14.CfgParses'. -/
def cfgParsesUptoCard : Claim7 := { stood := { row := cfgParsesUptoRow, standIns := [], harness := (true, "934b3fd04e36b7935e0abaa77623faf15dfd0f3c3b6c000f31c1f58787a82fd4"), looks := true }, kinds := [], alts := [], laidByText := true, laidKinds := [.data, .pinned], laidTests := true, laidLooks := .later }
def CfgParsesUptoCardSaid : Prop := Claim7.holds Tryd.pinned (.plain (OpenSpec.upto cfgParsesSpec)) cfgParsesUptoCard

/-- THE SECOND FORM's CARD OF 'portreevelaw14.CfgOnce'. -/
def cfgOnceUptoCard : Claim7 := { stood := { row := cfgOnceUptoRow, standIns := [], harness := (true, "934b3fd04e36b7935e0abaa77623faf15dfd0f3c3b6c000f31c1f58787a82fd4"), looks := true }, kinds := [], alts := [], laidByText := true, laidKinds := [.data, .pinned], laidTests := true, laidLooks := .later }
def CfgOnceUptoCardSaid : Prop := Claim7.holds Tryd.pinned (.plain (OpenSpec.upto cfgOnceSpec)) cfgOnceUptoCard

/-- THE SECOND FORM's CARD OF 'portreevelaw14.CfgCuts'. -/
def cfgCutsUptoCard : Claim7 := { stood := { row := cfgCutsUptoRow, standIns := [], harness := (true, "934b3fd04e36b7935e0abaa77623faf15dfd0f3c3b6c000f31c1f58787a82fd4"), looks := true }, kinds := [], alts := [], laidByText := true, laidKinds := [.data, .pinned], laidTests := true, laidLooks := .later }
def CfgCutsUptoCardSaid : Prop := Claim7.holds Tryd.pinned (.plain (OpenSpec.upto cfgCutsSpec)) cfgCutsUptoCard

/-- THE SECOND FORM's CARD OF 'portreevelaw14.CfgTells'. -/
def cfgTellsUptoCard : Claim7 := { stood := { row := cfgTellsUptoRow, standIns := [], harness := (true, "934b3fd04e36b7935e0abaa77623faf15dfd0f3c3b6c000f31c1f58787a82fd4"), looks := true }, kinds := [], alts := [], laidByText := true, laidKinds := [.data, .pinned], laidTests := true, laidLooks := .later }
def CfgTellsUptoCardSaid : Prop := Claim7.holds Tryd.pinned (.plain (OpenSpec.upto cfgTellsSpec)) cfgTellsUptoCard
end Rows
end Go.Proofs.YtmcpmcicolpoeaaDoor
