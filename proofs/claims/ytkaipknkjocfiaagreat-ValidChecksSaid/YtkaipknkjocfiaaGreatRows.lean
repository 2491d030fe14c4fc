/-
  No cell of these rows narrows 'for every input' (looked for: loops, veiled, ifaces, maps, wideKeys, modest, calm, conditions, laid).
  DERIVED. THE GIVEN ROWS OF THIS SEAT. 5 by the template 'for every input the law returns true; each argument reads behind the call as it read before'; 0 by the template 'total and deterministic' (their statements: YtkaipknkjocfiaaGreatTotals.lean).
  GIVEN WITH THE SEED: the statements are not yours to turn. If you find one false, say at which input.
  Laid BY PROGRAM, IN A SANDBOX (cutbox-rows.mjs): the forced cells as the released guide's own fill.sh prints them over the translation f2dd52ab0d690507… (all of the seat's roots in one cut). By AI agents, Wed Nov 11 2026. No macro, syntax, notation, axiom, sorry.
-/
import Derived.Test.YtkaipknkjocfiaaGreatChecked
import GoSem.Claim
import GoSem.ClaimJoined
import GoSem.ClaimMapViews
import Derived.JoinedTies
import Derived.KernelRfl
namespace Go.Proofs.YtkaipknkjocfiaaGreat
/- THE CELL 'sum', in the pinned program and in every row, IS THE sha256 OF THE DUMP (.gsa) THAT YtkaipknkjocfiaaGreatProg.lean LOADS. Nothing in Lean hashes anything: it is a label: what it is worth is what the hold of that sum in a sandbox is worth. -/
noncomputable def Tryz.pinned : Pinned := { name := "ytkaipknkjocfiaagreat", sum := "f2dd52ab0d6905074c1f81ce06da26defe58327b4d1b3d5d3035604bc2786b40", checked := Tryz.checked }
namespace Rows
def none {H : Type} : Left H := { results := [], args := [] }

/-- 'portreevelaw17.ValidChecks': WHATEVER THE INPUT: true; the input reads as it did. -/
def validChecksSpec : ChangeSpec := { name := "validChecks", fn := fun _ => fun
  | [d1, d2] => { results := [.lit (.bool true)], args := [d1, d2] }
  | _ => none }
def validChecksRow : OpenClaim := { program := "ytkaipknkjocfiaagreat", sum := "f2dd52ab0d6905074c1f81ce06da26defe58327b4d1b3d5d3035604bc2786b40", func := "portreeve/portreevelaw17.ValidChecks", spec := "validChecks", unfollowed := true, recurses := true, apart := false }
def ValidChecksSaid : Prop := validChecksRow.holds Tryz.pinned (OpenSpec.ofChange validChecksSpec)

/-- ITS FALSE NEIGHBOUR: 'it returns false'. Refute it at one input. -/
def validChecksWrong : ChangeSpec := { name := "validChecks", fn := fun _ => fun
  | [d1, d2] => { results := [.lit (.bool false)], args := [d1, d2] }
  | _ => none }
def ValidChecksWrongFalsely : Prop := validChecksRow.holds Tryz.pinned (OpenSpec.ofChange validChecksWrong)

/-- 'portreevelaw17.ValidApart': WHATEVER THE INPUT: true; the input reads as it did. -/
def validApartSpec : ChangeSpec := { name := "validApart", fn := fun _ => fun
  | [d1, d2] => { results := [.lit (.bool true)], args := [d1, d2] }
  | _ => none }
def validApartRow : OpenClaim := { program := "ytkaipknkjocfiaagreat", sum := "f2dd52ab0d6905074c1f81ce06da26defe58327b4d1b3d5d3035604bc2786b40", func := "portreeve/portreevelaw17.ValidApart", spec := "validApart", unfollowed := true, recurses := true, apart := false }
def ValidApartSaid : Prop := validApartRow.holds Tryz.pinned (OpenSpec.ofChange validApartSpec)

/-- ITS FALSE NEIGHBOUR: 'it returns false'. Refute it at one input. -/
def validApartWrong : ChangeSpec := { name := "validApart", fn := fun _ => fun
  | [d1, d2] => { results := [.lit (.bool false)], args := [d1, d2] }
  | _ => none }
def ValidApartWrongFalsely : Prop := validApartRow.holds Tryz.pinned (OpenSpec.ofChange validApartWrong)

/-- 'portreevelaw17.ValidMaps': WHATEVER THE INPUT: true; the input reads as it did. -/
def validMapsSpec : ChangeSpec := { name := "validMaps", fn := fun _ => fun
  | [d1, d2] => { results := [.lit (.bool true)], args := [d1, d2] }
  | _ => none }
def validMapsRow : OpenClaim := { program := "ytkaipknkjocfiaagreat", sum := "f2dd52ab0d6905074c1f81ce06da26defe58327b4d1b3d5d3035604bc2786b40", func := "portreeve/portreevelaw17.ValidMaps", spec := "validMaps", unfollowed := true, recurses := true, apart := false }
def ValidMapsSaid : Prop := validMapsRow.holds Tryz.pinned (OpenSpec.ofChange validMapsSpec)

/-- ITS FALSE NEIGHBOUR: 'it returns false'. Refute it at one input. -/
def validMapsWrong : ChangeSpec := { name := "validMaps", fn := fun _ => fun
  | [d1, d2] => { results := [.lit (.bool false)], args := [d1, d2] }
  | _ => none }
def ValidMapsWrongFalsely : Prop := validMapsRow.holds Tryz.pinned (OpenSpec.ofChange validMapsWrong)

/-- 'portreevelaw17.ValidSmall': WHATEVER THE INPUT: true; the input reads as it did. -/
def validSmallSpec : ChangeSpec := { name := "validSmall", fn := fun _ => fun
  | [d1, d2] => { results := [.lit (.bool true)], args := [d1, d2] }
  | _ => none }
def validSmallRow : OpenClaim := { program := "ytkaipknkjocfiaagreat", sum := "f2dd52ab0d6905074c1f81ce06da26defe58327b4d1b3d5d3035604bc2786b40", func := "portreeve/portreevelaw17.ValidSmall", spec := "validSmall", unfollowed := true, recurses := true, apart := false }
def ValidSmallSaid : Prop := validSmallRow.holds Tryz.pinned (OpenSpec.ofChange validSmallSpec)

/-- ITS FALSE NEIGHBOUR: 'it returns false'. Refute it at one input. -/
def validSmallWrong : ChangeSpec := { name := "validSmall", fn := fun _ => fun
  | [d1, d2] => { results := [.lit (.bool false)], args := [d1, d2] }
  | _ => none }
def ValidSmallWrongFalsely : Prop := validSmallRow.holds Tryz.pinned (OpenSpec.ofChange validSmallWrong)

/-- 'portreevelaw17.ValidOwners': WHATEVER THE INPUT: true; the input reads as it did. -/
def validOwnersSpec : ChangeSpec := { name := "validOwners", fn := fun _ => fun
  | [d1, d2] => { results := [.lit (.bool true)], args := [d1, d2] }
  | _ => none }
def validOwnersRow : OpenClaim := { program := "ytkaipknkjocfiaagreat", sum := "f2dd52ab0d6905074c1f81ce06da26defe58327b4d1b3d5d3035604bc2786b40", func := "portreeve/portreevelaw17.ValidOwners", spec := "validOwners", unfollowed := true, recurses := true, apart := false }
def ValidOwnersSaid : Prop := validOwnersRow.holds Tryz.pinned (OpenSpec.ofChange validOwnersSpec)

/-- ITS FALSE NEIGHBOUR: 'it returns false'. Refute it at one input. -/
def validOwnersWrong : ChangeSpec := { name := "validOwners", fn := fun _ => fun
  | [d1, d2] => { results := [.lit (.bool false)], args := [d1, d2] }
  | _ => none }
def ValidOwnersWrongFalsely : Prop := validOwnersRow.holds Tryz.pinned (OpenSpec.ofChange validOwnersWrong)

/- THE SECOND FORM. 'bulk': how many values and letters a reading holds, each counted each time it is reached (what is shared counts as often as it is met; a slice's spare places count too). A statement '..UptoSaid' is the law's where the arguments, and the package variables that the reading takes, are together of bulk at most 1048576: NARROWER than '..Said'. Prove '..Said' where nothing that the law and all that it calls make is longer than what came in: it says more and counts as full. Else prove '..UptoSaid'. A law counts once. -/
mutual
def uptoBulk {H : Type} : DataW H → Nat
  | .lit (.string bytes) => bytes.length + 1
  | .lit _ => 1
  | .nil => 1
  | .ptr d => uptoBulk d + 1
  | .slice elems spare => uptoBulkAll elems + uptoBulkAll spare + 1
  | .agg parts => uptoBulkAll parts + 1
  | .iface _ d => uptoBulk d + 1
  | .map entries => uptoBulkEntries entries + 1
  | .held _ => 1
def uptoBulkAll {H : Type} : List (DataW H) → Nat
  | [] => 0
  | d :: r => uptoBulk d + uptoBulkAll r
def uptoBulkEntries {H : Type} : List (Lit × DataW H) → Nat
  | [] => 0
  | x :: r => uptoBulkEntry x + uptoBulkEntries r
def uptoBulkEntry {H : Type} : Lit × DataW H → Nat
  | (.string bytes, d) => bytes.length + uptoBulk d + 1
  | (_, d) => uptoBulk d + 1
 end
def uptoSmall : (H : Type) → List (DataW H) → Bool := fun _ ds => decide (uptoBulkAll ds ≤ 1048576)
def OpenSpec.upto (s : _root_.Go.ChangeSpec) : _root_.Go.OpenSpec := { _root_.Go.OpenSpec.ofChange s with cond := some uptoSmall }

/-- 'portreevelaw17.ValidChecks', WHERE WHAT IT READS IS OF BULK AT MOST 1048576: true; the input reads as it did. -/
def validChecksUptoRow : OpenClaim := { program := "ytkaipknkjocfiaagreat", sum := "f2dd52ab0d6905074c1f81ce06da26defe58327b4d1b3d5d3035604bc2786b40", func := "portreeve/portreevelaw17.ValidChecks", spec := "validChecks", unfollowed := true, recurses := true, apart := false, narrowed := true }
def ValidChecksUptoSaid : Prop := validChecksUptoRow.holds Tryz.pinned (OpenSpec.upto validChecksSpec)

/-- 'portreevelaw17.ValidApart', WHERE WHAT IT READS IS OF BULK AT MOST 1048576: true; the input reads as it did. -/
def validApartUptoRow : OpenClaim := { program := "ytkaipknkjocfiaagreat", sum := "f2dd52ab0d6905074c1f81ce06da26defe58327b4d1b3d5d3035604bc2786b40", func := "portreeve/portreevelaw17.ValidApart", spec := "validApart", unfollowed := true, recurses := true, apart := false, narrowed := true }
def ValidApartUptoSaid : Prop := validApartUptoRow.holds Tryz.pinned (OpenSpec.upto validApartSpec)

/-- 'portreevelaw17.ValidMaps', WHERE WHAT IT READS IS OF BULK AT MOST 1048576: true; the input reads as it did. -/
def validMapsUptoRow : OpenClaim := { program := "ytkaipknkjocfiaagreat", sum := "f2dd52ab0d6905074c1f81ce06da26defe58327b4d1b3d5d3035604bc2786b40", func := "portreeve/portreevelaw17.ValidMaps", spec := "validMaps", unfollowed := true, recurses := true, apart := false, narrowed := true }
def ValidMapsUptoSaid : Prop := validMapsUptoRow.holds Tryz.pinned (OpenSpec.upto validMapsSpec)

/-- 'portreevelaw17.ValidSmall', WHERE WHAT IT READS IS OF BULK AT MOST 1048576: true; the input reads as it did. -/
def validSmallUptoRow : OpenClaim := { program := "ytkaipknkjocfiaagreat", sum := "f2dd52ab0d6905074c1f81ce06da26defe58327b4d1b3d5d3035604bc2786b40", func := "portreeve/portreevelaw17.ValidSmall", spec := "validSmall", unfollowed := true, recurses := true, apart := false, narrowed := true }
def ValidSmallUptoSaid : Prop := validSmallUptoRow.holds Tryz.pinned (OpenSpec.upto validSmallSpec)

/-- 'portreevelaw17.ValidOwners', WHERE WHAT IT READS IS OF BULK AT MOST 1048576: true; the input reads as it did. -/
def validOwnersUptoRow : OpenClaim := { program := "ytkaipknkjocfiaagreat", sum := "f2dd52ab0d6905074c1f81ce06da26defe58327b4d1b3d5d3035604bc2786b40", func := "portreeve/portreevelaw17.ValidOwners", spec := "validOwners", unfollowed := true, recurses := true, apart := false, narrowed := true }
def ValidOwnersUptoSaid : Prop := validOwnersUptoRow.holds Tryz.pinned (OpenSpec.upto validOwnersSpec)

end Rows
end Go.Proofs.YtkaipknkjocfiaaGreat
