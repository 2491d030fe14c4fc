/-
  No cell of these rows narrows 'for every input' (looked for: loops, veiled, ifaces, maps, wideKeys, modest, calm, conditions, laid).
  DERIVED. THE GIVEN ROWS OF THIS SEAT. 4 by the template 'for every input the law returns true; each argument reads behind the call as it read before'; 0 by the template 'total and deterministic' (their statements: YtfeiplaiekbdkaaTotals.lean).
  GIVEN WITH THE SEED: the statements are not yours to turn. If you find one false, say at which input.
  Laid BY PROGRAM, IN A SANDBOX (cutbox-rows.mjs): the forced cells as the released guide's own fill.sh prints them over the translation f278ffde414c8f36… (all of the seat's roots in one cut). By AI agents, Wed Nov 11 2026. No macro, syntax, notation, axiom, sorry.
-/
import Derived.Test.YtfeiplaiekbdkaaChecked
import GoSem.Claim
import GoSem.ClaimJoined
import GoSem.ClaimMapViews
import Derived.JoinedTies
import Derived.KernelRfl
namespace Go.Proofs.Ytfeiplaiekbdkaa
/- THE CELL 'sum', in the pinned program and in every row, IS THE sha256 OF THE DUMP (.gsa) THAT YtfeiplaiekbdkaaProg.lean LOADS. Nothing in Lean hashes anything: it is a label: what it is worth is what the hold of that sum in a sandbox is worth. -/
noncomputable def Try.pinned : Pinned := { name := "ytfeiplaiekbdkaa", sum := "f278ffde414c8f36ab7ee14beacf5ff296d680c3ef31be4b966b9fafb76e9c00", checked := Try.checked }
namespace Rows
def none {H : Type} : Left H := { results := [], args := [] }

/-- 'portreevelaw08.XmssKinds': WHATEVER THE INPUT: true; the input reads as it did. -/
def xmssKindsSpec : ChangeSpec := { name := "xmssKinds", fn := fun _ => fun
  | [d] => { results := [.lit (.bool true)], args := [d] }
  | _ => none }
def xmssKindsRow : OpenClaim := { program := "ytfeiplaiekbdkaa", sum := "f278ffde414c8f36ab7ee14beacf5ff296d680c3ef31be4b966b9fafb76e9c00", func := "portreeve/portreevelaw08.XmssKinds", spec := "xmssKinds", unfollowed := true, recurses := true, apart := false }
def XmssKindsSaid : Prop := xmssKindsRow.holds Try.pinned (OpenSpec.ofChange xmssKindsSpec)

/-- ITS FALSE NEIGHBOUR: 'it returns false'. Refute it at one input. -/
def xmssKindsWrong : ChangeSpec := { name := "xmssKinds", fn := fun _ => fun
  | [d] => { results := [.lit (.bool false)], args := [d] }
  | _ => none }
def XmssKindsWrongFalsely : Prop := xmssKindsRow.holds Try.pinned (OpenSpec.ofChange xmssKindsWrong)

/-- 'portreevelaw08.XmssKeys': WHATEVER THE INPUT: true; the input reads as it did. -/
def xmssKeysSpec : ChangeSpec := { name := "xmssKeys", fn := fun _ => fun
  | [d1, d2] => { results := [.lit (.bool true)], args := [d1, d2] }
  | _ => none }
def xmssKeysRow : OpenClaim := { program := "ytfeiplaiekbdkaa", sum := "f278ffde414c8f36ab7ee14beacf5ff296d680c3ef31be4b966b9fafb76e9c00", func := "portreeve/portreevelaw08.XmssKeys", spec := "xmssKeys", unfollowed := true, recurses := true, apart := false }
def XmssKeysSaid : Prop := xmssKeysRow.holds Try.pinned (OpenSpec.ofChange xmssKeysSpec)

/-- ITS FALSE NEIGHBOUR: 'it returns false'. Refute it at one input. -/
def xmssKeysWrong : ChangeSpec := { name := "xmssKeys", fn := fun _ => fun
  | [d1, d2] => { results := [.lit (.bool false)], args := [d1, d2] }
  | _ => none }
def XmssKeysWrongFalsely : Prop := xmssKeysRow.holds Try.pinned (OpenSpec.ofChange xmssKeysWrong)

/-- 'portreevelaw08.XmssSigs': WHATEVER THE INPUT: true; the input reads as it did. -/
def xmssSigsSpec : ChangeSpec := { name := "xmssSigs", fn := fun _ => fun
  | [d1, d2] => { results := [.lit (.bool true)], args := [d1, d2] }
  | _ => none }
def xmssSigsRow : OpenClaim := { program := "ytfeiplaiekbdkaa", sum := "f278ffde414c8f36ab7ee14beacf5ff296d680c3ef31be4b966b9fafb76e9c00", func := "portreeve/portreevelaw08.XmssSigs", spec := "xmssSigs", unfollowed := true, recurses := true, apart := false }
def XmssSigsSaid : Prop := xmssSigsRow.holds Try.pinned (OpenSpec.ofChange xmssSigsSpec)

/-- ITS FALSE NEIGHBOUR: 'it returns false'. Refute it at one input. -/
def xmssSigsWrong : ChangeSpec := { name := "xmssSigs", fn := fun _ => fun
  | [d1, d2] => { results := [.lit (.bool false)], args := [d1, d2] }
  | _ => none }
def XmssSigsWrongFalsely : Prop := xmssSigsRow.holds Try.pinned (OpenSpec.ofChange xmssSigsWrong)

/-- 'portreevelaw08.XmssPuts': WHATEVER THE INPUT: true; the input reads as it did. -/
def xmssPutsSpec : ChangeSpec := { name := "xmssPuts", fn := fun _ => fun
  | [d1, d2] => { results := [.lit (.bool true)], args := [d1, d2] }
  | _ => none }
def xmssPutsRow : OpenClaim := { program := "ytfeiplaiekbdkaa", sum := "f278ffde414c8f36ab7ee14beacf5ff296d680c3ef31be4b966b9fafb76e9c00", func := "portreeve/portreevelaw08.XmssPuts", spec := "xmssPuts", unfollowed := true, recurses := true, apart := false }
def XmssPutsSaid : Prop := xmssPutsRow.holds Try.pinned (OpenSpec.ofChange xmssPutsSpec)

/-- ITS FALSE NEIGHBOUR: 'it returns false'. Refute it at one input. -/
def xmssPutsWrong : ChangeSpec := { name := "xmssPuts", fn := fun _ => fun
  | [d1, d2] => { results := [.lit (.bool false)], args := [d1, d2] }
  | _ => none }
def XmssPutsWrongFalsely : Prop := xmssPutsRow.holds Try.pinned (OpenSpec.ofChange xmssPutsWrong)

/- THE SECOND FORM. 'bulk': how many values and letters a reading holds, each counted each time it is reached (what is shared counts as often as it is met; a slice's spare places count too). A statement '..UptoSaid' is the law's where the arguments, and the package variables that the reading takes, are together of bulk at most 1048576: NARROWER than '..Said'. Prove '..Said' where nothing that the law and all that it calls make is longer than what came in: it says more and counts as full. Else prove '..UptoSaid'. A law counts once. -/
mutual
def uptoBulk {H : Type} : DataW H → Nat
  | .lit (.string bytes) => bytes.length + 1
  | .lit _ => 1
  | .nil => 1
  | .ptr d => uptoBulk d + 1
  | .slice elems spare => uptoBulkAll elems + uptoBulkAll spare + 1
  | .agg parts => uptoBulkAll parts + 1
  | .iface _ d => uptoBulk d + 1
  | .map entries => uptoBulkEntries entries + 1
  | .held _ => 1
def uptoBulkAll {H : Type} : List (DataW H) → Nat
  | [] => 0
  | d :: r => uptoBulk d + uptoBulkAll r
def uptoBulkEntries {H : Type} : List (Lit × DataW H) → Nat
  | [] => 0
  | x :: r => uptoBulkEntry x + uptoBulkEntries r
def uptoBulkEntry {H : Type} : Lit × DataW H → Nat
  | (.string bytes, d) => bytes.length + uptoBulk d + 1
  | (_, d) => uptoBulk d + 1
 end
def uptoSmall : (H : Type) → List (DataW H) → Bool := fun _ ds => decide (uptoBulkAll ds ≤ 1048576)
def OpenSpec.upto (s : _root_.Go.ChangeSpec) : _root_.Go.OpenSpec := { _root_.Go.OpenSpec.ofChange s with cond := some uptoSmall }

/-- 'portreevelaw08.XmssKinds', WHERE WHAT IT READS IS OF BULK AT MOST 1048576: true; the input reads as it did. -/
def xmssKindsUptoRow : OpenClaim := { program := "ytfeiplaiekbdkaa", sum := "f278ffde414c8f36ab7ee14beacf5ff296d680c3ef31be4b966b9fafb76e9c00", func := "portreeve/portreevelaw08.XmssKinds", spec := "xmssKinds", unfollowed := true, recurses := true, apart := false, narrowed := true }
def XmssKindsUptoSaid : Prop := xmssKindsUptoRow.holds Try.pinned (OpenSpec.upto xmssKindsSpec)

/-- 'portreevelaw08.XmssKeys', WHERE WHAT IT READS IS OF BULK AT MOST 1048576: true; the input reads as it did. -/
def xmssKeysUptoRow : OpenClaim := { program := "ytfeiplaiekbdkaa", sum := "f278ffde414c8f36ab7ee14beacf5ff296d680c3ef31be4b966b9fafb76e9c00", func := "portreeve/portreevelaw08.XmssKeys", spec := "xmssKeys", unfollowed := true, recurses := true, apart := false, narrowed := true }
def XmssKeysUptoSaid : Prop := xmssKeysUptoRow.holds Try.pinned (OpenSpec.upto xmssKeysSpec)

/-- 'portreevelaw08.XmssSigs', WHERE WHAT IT READS IS OF BULK AT MOST 1048576: true; the input reads as it did. -/
def xmssSigsUptoRow : OpenClaim := { program := "ytfeiplaiekbdkaa", sum := "f278ffde414c8f36ab7ee14beacf5ff296d680c3ef31be4b966b9fafb76e9c00", func := "portreeve/portreevelaw08.XmssSigs", spec := "xmssSigs", unfollowed := true, recurses := true, apart := false, narrowed := true }
def XmssSigsUptoSaid : Prop := xmssSigsUptoRow.holds Try.pinned (OpenSpec.upto xmssSigsSpec)

/-- 'portreevelaw08.XmssPuts', WHERE WHAT IT READS IS OF BULK AT MOST 1048576: true; the input reads as it did. -/
def xmssPutsUptoRow : OpenClaim := { program := "ytfeiplaiekbdkaa", sum := "f278ffde414c8f36ab7ee14beacf5ff296d680c3ef31be4b966b9fafb76e9c00", func := "portreeve/portreevelaw08.XmssPuts", spec := "xmssPuts", unfollowed := true, recurses := true, apart := false, narrowed := true }
def XmssPutsUptoSaid : Prop := xmssPutsUptoRow.holds Try.pinned (OpenSpec.upto xmssPutsSpec)

end Rows
end Go.Proofs.Ytfeiplaiekbdkaa
