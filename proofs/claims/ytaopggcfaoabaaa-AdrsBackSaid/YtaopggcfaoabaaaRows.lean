/-
  No cell of these rows narrows 'for every input' (looked for: loops, veiled, ifaces, maps, wideKeys, modest, calm, conditions, laid).
  DERIVED. THE GIVEN ROWS OF THIS SEAT. 4 by the template 'for every input the law returns true; each argument reads behind the call as it read before'; 0 by the template 'total and deterministic' (their statements: YtaopggcfaoabaaaTotals.lean).
  GIVEN WITH THE SEED: the statements are not yours to turn. If you find one false, say at which input.
  Laid BY PROGRAM, IN A SANDBOX (cutbox-rows.mjs): the forced cells as the released guide's own fill.sh prints them over the translation 41b05511f53fc7e2… (all of the seat's roots in one cut). By AI agents, Wed Nov 11 2026. No macro, syntax, notation, axiom, sorry.
-/
import Derived.Test.YtaopggcfaoabaaaChecked
import GoSem.Claim
import GoSem.ClaimJoined
import GoSem.ClaimMapViews
import Derived.JoinedTies
import Derived.KernelRfl
namespace Go.Proofs.Ytaopggcfaoabaaa
/- THE CELL 'sum', in the pinned program and in every row, IS THE sha256 OF THE DUMP (.gsa) THAT YtaopggcfaoabaaaProg.lean LOADS. Nothing in Lean hashes anything: it is a label: what it is worth is what the hold of that sum in a sandbox is worth. -/
noncomputable def Try.pinned : Pinned := { name := "ytaopggcfaoabaaa", sum := "41b05511f53fc7e25da99b2cdafdd043c37f0f8b8cfb5a5528fd8bdd3801a0c3", checked := Try.checked }
namespace Rows
def none {H : Type} : Left H := { results := [], args := [] }

/-- 'portreevelaw04.AdrsBytes': WHATEVER THE INPUT: true; the input reads as it did. -/
def adrsBytesSpec : ChangeSpec := { name := "adrsBytes", fn := fun _ => fun
  | [d] => { results := [.lit (.bool true)], args := [d] }
  | _ => none }
def adrsBytesRow : OpenClaim := { program := "ytaopggcfaoabaaa", sum := "41b05511f53fc7e25da99b2cdafdd043c37f0f8b8cfb5a5528fd8bdd3801a0c3", func := "portreeve/portreevelaw04.AdrsBytes", spec := "adrsBytes", apart := false }
def AdrsBytesSaid : Prop := adrsBytesRow.holds Try.pinned (OpenSpec.ofChange adrsBytesSpec)

/-- ITS FALSE NEIGHBOUR: 'it returns false'. Refute it at one input. -/
def adrsBytesWrong : ChangeSpec := { name := "adrsBytes", fn := fun _ => fun
  | [d] => { results := [.lit (.bool false)], args := [d] }
  | _ => none }
def AdrsBytesWrongFalsely : Prop := adrsBytesRow.holds Try.pinned (OpenSpec.ofChange adrsBytesWrong)

/-- 'portreevelaw04.AdrsBack': WHATEVER THE INPUT: true; the input reads as it did. -/
def adrsBackSpec : ChangeSpec := { name := "adrsBack", fn := fun _ => fun
  | [d1, d2] => { results := [.lit (.bool true)], args := [d1, d2] }
  | _ => none }
def adrsBackRow : OpenClaim := { program := "ytaopggcfaoabaaa", sum := "41b05511f53fc7e25da99b2cdafdd043c37f0f8b8cfb5a5528fd8bdd3801a0c3", func := "portreeve/portreevelaw04.AdrsBack", spec := "adrsBack", apart := false }
def AdrsBackSaid : Prop := adrsBackRow.holds Try.pinned (OpenSpec.ofChange adrsBackSpec)

/-- ITS FALSE NEIGHBOUR: 'it returns false'. Refute it at one input. -/
def adrsBackWrong : ChangeSpec := { name := "adrsBack", fn := fun _ => fun
  | [d1, d2] => { results := [.lit (.bool false)], args := [d1, d2] }
  | _ => none }
def AdrsBackWrongFalsely : Prop := adrsBackRow.holds Try.pinned (OpenSpec.ofChange adrsBackWrong)

/-- 'portreevelaw04.AdrsMakes': WHATEVER THE INPUT: true; the input reads as it did. -/
def adrsMakesSpec : ChangeSpec := { name := "adrsMakes", fn := fun _ => fun
  | [d1, d2, d3, d4] => { results := [.lit (.bool true)], args := [d1, d2, d3, d4] }
  | _ => none }
def adrsMakesRow : OpenClaim := { program := "ytaopggcfaoabaaa", sum := "41b05511f53fc7e25da99b2cdafdd043c37f0f8b8cfb5a5528fd8bdd3801a0c3", func := "portreeve/portreevelaw04.AdrsMakes", spec := "adrsMakes", apart := false }
def AdrsMakesSaid : Prop := adrsMakesRow.holds Try.pinned (OpenSpec.ofChange adrsMakesSpec)

/-- ITS FALSE NEIGHBOUR: 'it returns false'. Refute it at one input. -/
def adrsMakesWrong : ChangeSpec := { name := "adrsMakes", fn := fun _ => fun
  | [d1, d2, d3, d4] => { results := [.lit (.bool false)], args := [d1, d2, d3, d4] }
  | _ => none }
def AdrsMakesWrongFalsely : Prop := adrsMakesRow.holds Try.pinned (OpenSpec.ofChange adrsMakesWrong)

/-- 'portreevelaw04.AdrsApart': WHATEVER THE INPUT: true; the input reads as it did. -/
def adrsApartSpec : ChangeSpec := { name := "adrsApart", fn := fun _ => fun
  | [d1, d2, d3, d4, d5, d6] => { results := [.lit (.bool true)], args := [d1, d2, d3, d4, d5, d6] }
  | _ => none }
def adrsApartRow : OpenClaim := { program := "ytaopggcfaoabaaa", sum := "41b05511f53fc7e25da99b2cdafdd043c37f0f8b8cfb5a5528fd8bdd3801a0c3", func := "portreeve/portreevelaw04.AdrsApart", spec := "adrsApart", apart := false }
def AdrsApartSaid : Prop := adrsApartRow.holds Try.pinned (OpenSpec.ofChange adrsApartSpec)

/-- ITS FALSE NEIGHBOUR: 'it returns false'. Refute it at one input. -/
def adrsApartWrong : ChangeSpec := { name := "adrsApart", fn := fun _ => fun
  | [d1, d2, d3, d4, d5, d6] => { results := [.lit (.bool false)], args := [d1, d2, d3, d4, d5, d6] }
  | _ => none }
def AdrsApartWrongFalsely : Prop := adrsApartRow.holds Try.pinned (OpenSpec.ofChange adrsApartWrong)

/- THE SECOND FORM. 'bulk': how many values and letters a reading holds, each counted each time it is reached (what is shared counts as often as it is met; a slice's spare places count too). A statement '..UptoSaid' is the law's where the arguments, and the package variables that the reading takes, are together of bulk at most 1048576: NARROWER than '..Said'. Prove '..Said' where nothing that the law and all that it calls make is longer than what came in: it says more and counts as full. Else prove '..UptoSaid'. A law counts once. -/
mutual
def uptoBulk {H : Type} : DataW H → Nat
  | .lit (.string bytes) => bytes.length + 1
  | .lit _ => 1
  | .nil => 1
  | .ptr d => uptoBulk d + 1
  | .slice elems spare => uptoBulkAll elems + uptoBulkAll spare + 1
  | .agg parts => uptoBulkAll parts + 1
  | .iface _ d => uptoBulk d + 1
  | .map entries => uptoBulkEntries entries + 1
  | .held _ => 1
def uptoBulkAll {H : Type} : List (DataW H) → Nat
  | [] => 0
  | d :: r => uptoBulk d + uptoBulkAll r
def uptoBulkEntries {H : Type} : List (Lit × DataW H) → Nat
  | [] => 0
  | x :: r => uptoBulkEntry x + uptoBulkEntries r
def uptoBulkEntry {H : Type} : Lit × DataW H → Nat
  | (.string bytes, d) => bytes.length + uptoBulk d + 1
  | (_, d) => uptoBulk d + 1
 end
def uptoSmall : (H : Type) → List (DataW H) → Bool := fun _ ds => decide (uptoBulkAll ds ≤ 1048576)
def OpenSpec.upto (s : _root_.Go.ChangeSpec) : _root_.Go.OpenSpec := { _root_.Go.OpenSpec.ofChange s with cond := some uptoSmall }

/-- 'portreevelaw04.AdrsBytes', WHERE WHAT IT READS IS OF BULK AT MOST 1048576: true; the input reads as it did. -/
def adrsBytesUptoRow : OpenClaim := { program := "ytaopggcfaoabaaa", sum := "41b05511f53fc7e25da99b2cdafdd043c37f0f8b8cfb5a5528fd8bdd3801a0c3", func := "portreeve/portreevelaw04.AdrsBytes", spec := "adrsBytes", apart := false, narrowed := true }
def AdrsBytesUptoSaid : Prop := adrsBytesUptoRow.holds Try.pinned (OpenSpec.upto adrsBytesSpec)

/-- 'portreevelaw04.AdrsBack', WHERE WHAT IT READS IS OF BULK AT MOST 1048576: true; the input reads as it did. -/
def adrsBackUptoRow : OpenClaim := { program := "ytaopggcfaoabaaa", sum := "41b05511f53fc7e25da99b2cdafdd043c37f0f8b8cfb5a5528fd8bdd3801a0c3", func := "portreeve/portreevelaw04.AdrsBack", spec := "adrsBack", apart := false, narrowed := true }
def AdrsBackUptoSaid : Prop := adrsBackUptoRow.holds Try.pinned (OpenSpec.upto adrsBackSpec)

/-- 'portreevelaw04.AdrsMakes', WHERE WHAT IT READS IS OF BULK AT MOST 1048576: true; the input reads as it did. -/
def adrsMakesUptoRow : OpenClaim := { program := "ytaopggcfaoabaaa", sum := "41b05511f53fc7e25da99b2cdafdd043c37f0f8b8cfb5a5528fd8bdd3801a0c3", func := "portreeve/portreevelaw04.AdrsMakes", spec := "adrsMakes", apart := false, narrowed := true }
def AdrsMakesUptoSaid : Prop := adrsMakesUptoRow.holds Try.pinned (OpenSpec.upto adrsMakesSpec)

/-- 'portreevelaw04.AdrsApart', WHERE WHAT IT READS IS OF BULK AT MOST 1048576: true; the input reads as it did. -/
def adrsApartUptoRow : OpenClaim := { program := "ytaopggcfaoabaaa", sum := "41b05511f53fc7e25da99b2cdafdd043c37f0f8b8cfb5a5528fd8bdd3801a0c3", func := "portreeve/portreevelaw04.AdrsApart", spec := "adrsApart", apart := false, narrowed := true }
def AdrsApartUptoSaid : Prop := adrsApartUptoRow.holds Try.pinned (OpenSpec.upto adrsApartSpec)

end Rows
end Go.Proofs.Ytaopggcfaoabaaa
