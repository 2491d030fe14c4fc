/-
  No cell of these rows narrows 'for every input' (looked for: loops, veiled, ifaces, maps, wideKeys, modest, calm, conditions, laid).
  DERIVED. THE GIVEN ROWS OF THIS SEAT. 4 by the template 'for every input the law returns true; each argument reads behind the call as it read before'; 0 by the template 'total and deterministic' (their statements: YtfmdebnenmklbaaTotals.lean).
  GIVEN WITH THE SEED: the statements are not yours to turn. If you find one false, say at which input.
  Laid BY PROGRAM, IN A SANDBOX (cutbox-rows.mjs): the forced cells as the released guide's own fill.sh prints them over the translation b0510bcb00911399… (all of the seat's roots in one cut). By AI agents, Wed Nov 11 2026. No macro, syntax, notation, axiom, sorry.
-/
import Derived.Test.YtfmdebnenmklbaaChecked
import GoSem.Claim
import GoSem.ClaimJoined
import GoSem.ClaimMapViews
import Derived.JoinedTies
import Derived.KernelRfl
namespace Go.Proofs.Ytfmdebnenmklbaa
/- THE CELL 'sum', in the pinned program and in every row, IS THE sha256 OF THE DUMP (.gsa) THAT YtfmdebnenmklbaaProg.lean LOADS. Nothing in Lean hashes anything: it is a label: what it is worth is what the hold of that sum in a sandbox is worth. -/
noncomputable def Try.pinned : Pinned := { name := "ytfmdebnenmklbaa", sum := "b0510bcb00911399db134aac4a327b61a88332e02af1b558082cdd89b90b1fdd", checked := Try.checked }
namespace Rows
def none {H : Type} : Left H := { results := [], args := [] }

/-- 'portreevelaw10.NvDoes': WHATEVER THE INPUT: true; the input reads as it did. -/
def nvDoesSpec : ChangeSpec := { name := "nvDoes", fn := fun _ => fun
  | [d1, d2, d3] => { results := [.lit (.bool true)], args := [d1, d2, d3] }
  | _ => none }
def nvDoesRow : OpenClaim := { program := "ytfmdebnenmklbaa", sum := "b0510bcb00911399db134aac4a327b61a88332e02af1b558082cdd89b90b1fdd", func := "portreeve/portreevelaw10.NvDoes", spec := "nvDoes", apart := false }
def NvDoesSaid : Prop := nvDoesRow.holds Try.pinned (OpenSpec.ofChange nvDoesSpec)

/-- ITS FALSE NEIGHBOUR: 'it returns false'. Refute it at one input. -/
def nvDoesWrong : ChangeSpec := { name := "nvDoes", fn := fun _ => fun
  | [d1, d2, d3] => { results := [.lit (.bool false)], args := [d1, d2, d3] }
  | _ => none }
def NvDoesWrongFalsely : Prop := nvDoesRow.holds Try.pinned (OpenSpec.ofChange nvDoesWrong)

/-- 'portreevelaw10.NvTears': WHATEVER THE INPUT: true; the input reads as it did. -/
def nvTearsSpec : ChangeSpec := { name := "nvTears", fn := fun _ => fun
  | [d1, d2, d3, d4] => { results := [.lit (.bool true)], args := [d1, d2, d3, d4] }
  | _ => none }
def nvTearsRow : OpenClaim := { program := "ytfmdebnenmklbaa", sum := "b0510bcb00911399db134aac4a327b61a88332e02af1b558082cdd89b90b1fdd", func := "portreeve/portreevelaw10.NvTears", spec := "nvTears", apart := false }
def NvTearsSaid : Prop := nvTearsRow.holds Try.pinned (OpenSpec.ofChange nvTearsSpec)

/-- ITS FALSE NEIGHBOUR: 'it returns false'. Refute it at one input. -/
def nvTearsWrong : ChangeSpec := { name := "nvTears", fn := fun _ => fun
  | [d1, d2, d3, d4] => { results := [.lit (.bool false)], args := [d1, d2, d3, d4] }
  | _ => none }
def NvTearsWrongFalsely : Prop := nvTearsRow.holds Try.pinned (OpenSpec.ofChange nvTearsWrong)

/-- 'portreevelaw10.NvKeeps': WHATEVER THE INPUT: true; the input reads as it did. -/
def nvKeepsSpec : ChangeSpec := { name := "nvKeeps", fn := fun _ => fun
  | [d1, d2, d3, d4] => { results := [.lit (.bool true)], args := [d1, d2, d3, d4] }
  | _ => none }
def nvKeepsRow : OpenClaim := { program := "ytfmdebnenmklbaa", sum := "b0510bcb00911399db134aac4a327b61a88332e02af1b558082cdd89b90b1fdd", func := "portreeve/portreevelaw10.NvKeeps", spec := "nvKeeps", apart := false }
def NvKeepsSaid : Prop := nvKeepsRow.holds Try.pinned (OpenSpec.ofChange nvKeepsSpec)

/-- ITS FALSE NEIGHBOUR: 'it returns false'. Refute it at one input. -/
def nvKeepsWrong : ChangeSpec := { name := "nvKeeps", fn := fun _ => fun
  | [d1, d2, d3, d4] => { results := [.lit (.bool false)], args := [d1, d2, d3, d4] }
  | _ => none }
def NvKeepsWrongFalsely : Prop := nvKeepsRow.holds Try.pinned (OpenSpec.ofChange nvKeepsWrong)

/-- 'portreevelaw10.NvNone': WHATEVER THE INPUT: true; the input reads as it did. -/
def nvNoneSpec : ChangeSpec := { name := "nvNone", fn := fun _ => fun
  | [d1, d2] => { results := [.lit (.bool true)], args := [d1, d2] }
  | _ => none }
def nvNoneRow : OpenClaim := { program := "ytfmdebnenmklbaa", sum := "b0510bcb00911399db134aac4a327b61a88332e02af1b558082cdd89b90b1fdd", func := "portreeve/portreevelaw10.NvNone", spec := "nvNone", apart := false }
def NvNoneSaid : Prop := nvNoneRow.holds Try.pinned (OpenSpec.ofChange nvNoneSpec)

/-- ITS FALSE NEIGHBOUR: 'it returns false'. Refute it at one input. -/
def nvNoneWrong : ChangeSpec := { name := "nvNone", fn := fun _ => fun
  | [d1, d2] => { results := [.lit (.bool false)], args := [d1, d2] }
  | _ => none }
def NvNoneWrongFalsely : Prop := nvNoneRow.holds Try.pinned (OpenSpec.ofChange nvNoneWrong)

/- THE SECOND FORM. 'bulk': how many values and letters a reading holds, each counted each time it is reached (what is shared counts as often as it is met; a slice's spare places count too). A statement '..UptoSaid' is the law's where the arguments, and the package variables that the reading takes, are together of bulk at most 1048576: NARROWER than '..Said'. Prove '..Said' where nothing that the law and all that it calls make is longer than what came in: it says more and counts as full. Else prove '..UptoSaid'. A law counts once. -/
mutual
def uptoBulk {H : Type} : DataW H → Nat
  | .lit (.string bytes) => bytes.length + 1
  | .lit _ => 1
  | .nil => 1
  | .ptr d => uptoBulk d + 1
  | .slice elems spare => uptoBulkAll elems + uptoBulkAll spare + 1
  | .agg parts => uptoBulkAll parts + 1
  | .iface _ d => uptoBulk d + 1
  | .map entries => uptoBulkEntries entries + 1
  | .held _ => 1
def uptoBulkAll {H : Type} : List (DataW H) → Nat
  | [] => 0
  | d :: r => uptoBulk d + uptoBulkAll r
def uptoBulkEntries {H : Type} : List (Lit × DataW H) → Nat
  | [] => 0
  | x :: r => uptoBulkEntry x + uptoBulkEntries r
def uptoBulkEntry {H : Type} : Lit × DataW H → Nat
  | (.string bytes, d) => bytes.length + uptoBulk d + 1
  | (_, d) => uptoBulk d + 1
 end
def uptoSmall : (H : Type) → List (DataW H) → Bool := fun _ ds => decide (uptoBulkAll ds ≤ 1048576)
def OpenSpec.upto (s : _root_.Go.ChangeSpec) : _root_.Go.OpenSpec := { _root_.Go.OpenSpec.ofChange s with cond := some uptoSmall }

/-- 'portreevelaw10.NvDoes', WHERE WHAT IT READS IS OF BULK AT MOST 1048576: true; the input reads as it did. -/
def nvDoesUptoRow : OpenClaim := { program := "ytfmdebnenmklbaa", sum := "b0510bcb00911399db134aac4a327b61a88332e02af1b558082cdd89b90b1fdd", func := "portreeve/portreevelaw10.NvDoes", spec := "nvDoes", apart := false, narrowed := true }
def NvDoesUptoSaid : Prop := nvDoesUptoRow.holds Try.pinned (OpenSpec.upto nvDoesSpec)

/-- 'portreevelaw10.NvTears', WHERE WHAT IT READS IS OF BULK AT MOST 1048576: true; the input reads as it did. -/
def nvTearsUptoRow : OpenClaim := { program := "ytfmdebnenmklbaa", sum := "b0510bcb00911399db134aac4a327b61a88332e02af1b558082cdd89b90b1fdd", func := "portreeve/portreevelaw10.NvTears", spec := "nvTears", apart := false, narrowed := true }
def NvTearsUptoSaid : Prop := nvTearsUptoRow.holds Try.pinned (OpenSpec.upto nvTearsSpec)

/-- 'portreevelaw10.NvKeeps', WHERE WHAT IT READS IS OF BULK AT MOST 1048576: true; the input reads as it did. -/
def nvKeepsUptoRow : OpenClaim := { program := "ytfmdebnenmklbaa", sum := "b0510bcb00911399db134aac4a327b61a88332e02af1b558082cdd89b90b1fdd", func := "portreeve/portreevelaw10.NvKeeps", spec := "nvKeeps", apart := false, narrowed := true }
def NvKeepsUptoSaid : Prop := nvKeepsUptoRow.holds Try.pinned (OpenSpec.upto nvKeepsSpec)

/-- 'portreevelaw10.NvNone', WHERE WHAT IT READS IS OF BULK AT MOST 1048576: true; the input reads as it did. -/
def nvNoneUptoRow : OpenClaim := { program := "ytfmdebnenmklbaa", sum := "b0510bcb00911399db134aac4a327b61a88332e02af1b558082cdd89b90b1fdd", func := "portreeve/portreevelaw10.NvNone", spec := "nvNone", apart := false, narrowed := true }
def NvNoneUptoSaid : Prop := nvNoneUptoRow.holds Try.pinned (OpenSpec.upto nvNoneSpec)

end Rows
end Go.Proofs.Ytfmdebnenmklbaa
