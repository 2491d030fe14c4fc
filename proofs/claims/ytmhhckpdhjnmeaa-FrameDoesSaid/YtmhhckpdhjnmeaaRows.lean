/-
  No cell of these rows narrows 'for every input' (looked for: loops, veiled, ifaces, maps, wideKeys, modest, calm, conditions, laid).
  DERIVED. THE GIVEN ROWS OF THIS SEAT. 4 by the template 'for every input the law returns true; each argument reads behind the call as it read before'; 0 by the template 'total and deterministic' (their statements: YtmhhckpdhjnmeaaTotals.lean).
  GIVEN WITH THE SEED: the statements are not yours to turn. If you find one false, say at which input.
  Laid BY PROGRAM, IN A SANDBOX (cutbox-rows.mjs): the forced cells as the released guide's own fill.sh prints them over the translation f96d9876f477cc2e… (all of the seat's roots in one cut). By AI agents, Wed Nov 11 2026. No macro, syntax, notation, axiom, sorry.
-/
import Derived.Test.YtmhhckpdhjnmeaaChecked
import GoSem.Claim
import GoSem.ClaimJoined
import GoSem.ClaimMapViews
import Derived.JoinedTies
import Derived.KernelRfl
namespace Go.Proofs.Ytmhhckpdhjnmeaa
/- THE CELL 'sum', in the pinned program and in every row, IS THE sha256 OF THE DUMP (.gsa) THAT YtmhhckpdhjnmeaaProg.lean LOADS. Nothing in Lean hashes anything: it is a label: what it is worth is what the hold of that sum in a sandbox is worth. -/
noncomputable def Try.pinned : Pinned := { name := "ytmhhckpdhjnmeaa", sum := "f96d9876f477cc2e41ce14ddde6a8a53ac40960e5de51e1edd8bc940a1e49e96", checked := Try.checked }
namespace Rows
def none {H : Type} : Left H := { results := [], args := [] }

/-- 'portreevelaw11.FrameDoes': WHATEVER THE INPUT: true; the input reads as it did. -/
def frameDoesSpec : ChangeSpec := { name := "frameDoes", fn := fun _ => fun
  | [d1, d2, d3] => { results := [.lit (.bool true)], args := [d1, d2, d3] }
  | _ => none }
def frameDoesRow : OpenClaim := { program := "ytmhhckpdhjnmeaa", sum := "f96d9876f477cc2e41ce14ddde6a8a53ac40960e5de51e1edd8bc940a1e49e96", func := "portreeve/portreevelaw11.FrameDoes", spec := "frameDoes", inPlace := ["math/bits.Add64", "slices.overlaps[portreeve/api.Span]"], unfollowed := true, recurses := true, apart := false }
def FrameDoesSaid : Prop := frameDoesRow.holds Try.pinned (OpenSpec.ofChange frameDoesSpec)

/-- ITS FALSE NEIGHBOUR: 'it returns false'. Refute it at one input. -/
def frameDoesWrong : ChangeSpec := { name := "frameDoes", fn := fun _ => fun
  | [d1, d2, d3] => { results := [.lit (.bool false)], args := [d1, d2, d3] }
  | _ => none }
def FrameDoesWrongFalsely : Prop := frameDoesRow.holds Try.pinned (OpenSpec.ofChange frameDoesWrong)

/-- 'portreevelaw11.FrameApart': WHATEVER THE INPUT: true; the input reads as it did. -/
def frameApartSpec : ChangeSpec := { name := "frameApart", fn := fun _ => fun
  | [d1, d2] => { results := [.lit (.bool true)], args := [d1, d2] }
  | _ => none }
def frameApartRow : OpenClaim := { program := "ytmhhckpdhjnmeaa", sum := "f96d9876f477cc2e41ce14ddde6a8a53ac40960e5de51e1edd8bc940a1e49e96", func := "portreeve/portreevelaw11.FrameApart", spec := "frameApart", inPlace := ["math/bits.Add64", "slices.overlaps[portreeve/api.Span]"], unfollowed := true, recurses := true, apart := false }
def FrameApartSaid : Prop := frameApartRow.holds Try.pinned (OpenSpec.ofChange frameApartSpec)

/-- ITS FALSE NEIGHBOUR: 'it returns false'. Refute it at one input. -/
def frameApartWrong : ChangeSpec := { name := "frameApart", fn := fun _ => fun
  | [d1, d2] => { results := [.lit (.bool false)], args := [d1, d2] }
  | _ => none }
def FrameApartWrongFalsely : Prop := frameApartRow.holds Try.pinned (OpenSpec.ofChange frameApartWrong)

/-- 'portreevelaw11.FrameLasts': WHATEVER THE INPUT: true; the input reads as it did. -/
def frameLastsSpec : ChangeSpec := { name := "frameLasts", fn := fun _ => fun
  | [d1, d2] => { results := [.lit (.bool true)], args := [d1, d2] }
  | _ => none }
def frameLastsRow : OpenClaim := { program := "ytmhhckpdhjnmeaa", sum := "f96d9876f477cc2e41ce14ddde6a8a53ac40960e5de51e1edd8bc940a1e49e96", func := "portreeve/portreevelaw11.FrameLasts", spec := "frameLasts", inPlace := ["math/bits.Add64", "slices.overlaps[portreeve/api.Span]"], unfollowed := true, recurses := true, apart := false }
def FrameLastsSaid : Prop := frameLastsRow.holds Try.pinned (OpenSpec.ofChange frameLastsSpec)

/-- ITS FALSE NEIGHBOUR: 'it returns false'. Refute it at one input. -/
def frameLastsWrong : ChangeSpec := { name := "frameLasts", fn := fun _ => fun
  | [d1, d2] => { results := [.lit (.bool false)], args := [d1, d2] }
  | _ => none }
def FrameLastsWrongFalsely : Prop := frameLastsRow.holds Try.pinned (OpenSpec.ofChange frameLastsWrong)

/-- 'portreevelaw11.FrameNone': WHATEVER THE INPUT: true; the input reads as it did. -/
def frameNoneSpec : ChangeSpec := { name := "frameNone", fn := fun _ => fun
  | [d1, d2, d3] => { results := [.lit (.bool true)], args := [d1, d2, d3] }
  | _ => none }
def frameNoneRow : OpenClaim := { program := "ytmhhckpdhjnmeaa", sum := "f96d9876f477cc2e41ce14ddde6a8a53ac40960e5de51e1edd8bc940a1e49e96", func := "portreeve/portreevelaw11.FrameNone", spec := "frameNone", inPlace := ["math/bits.Add64", "slices.overlaps[portreeve/api.Span]"], unfollowed := true, recurses := true, apart := false }
def FrameNoneSaid : Prop := frameNoneRow.holds Try.pinned (OpenSpec.ofChange frameNoneSpec)

/-- ITS FALSE NEIGHBOUR: 'it returns false'. Refute it at one input. -/
def frameNoneWrong : ChangeSpec := { name := "frameNone", fn := fun _ => fun
  | [d1, d2, d3] => { results := [.lit (.bool false)], args := [d1, d2, d3] }
  | _ => none }
def FrameNoneWrongFalsely : Prop := frameNoneRow.holds Try.pinned (OpenSpec.ofChange frameNoneWrong)

/- THE SECOND FORM. 'bulk': how many values and letters a reading holds, each counted each time it is reached (what is shared counts as often as it is met; a slice's spare places count too). A statement '..UptoSaid' is the law's where the arguments, and the package variables that the reading takes, are together of bulk at most 1048576: NARROWER than '..Said'. Prove '..Said' where nothing that the law and all that it calls make is longer than what came in: it says more and counts as full. Else prove '..UptoSaid'. A law counts once. -/
mutual
def uptoBulk {H : Type} : DataW H → Nat
  | .lit (.string bytes) => bytes.length + 1
  | .lit _ => 1
  | .nil => 1
  | .ptr d => uptoBulk d + 1
  | .slice elems spare => uptoBulkAll elems + uptoBulkAll spare + 1
  | .agg parts => uptoBulkAll parts + 1
  | .iface _ d => uptoBulk d + 1
  | .map entries => uptoBulkEntries entries + 1
  | .held _ => 1
def uptoBulkAll {H : Type} : List (DataW H) → Nat
  | [] => 0
  | d :: r => uptoBulk d + uptoBulkAll r
def uptoBulkEntries {H : Type} : List (Lit × DataW H) → Nat
  | [] => 0
  | x :: r => uptoBulkEntry x + uptoBulkEntries r
def uptoBulkEntry {H : Type} : Lit × DataW H → Nat
  | (.string bytes, d) => bytes.length + uptoBulk d + 1
  | (_, d) => uptoBulk d + 1
 end
def uptoSmall : (H : Type) → List (DataW H) → Bool := fun _ ds => decide (uptoBulkAll ds ≤ 1048576)
def OpenSpec.upto (s : _root_.Go.ChangeSpec) : _root_.Go.OpenSpec := { _root_.Go.OpenSpec.ofChange s with cond := some uptoSmall }

/-- 'portreevelaw11.FrameDoes', WHERE WHAT IT READS IS OF BULK AT MOST 1048576: true; the input reads as it did. -/
def frameDoesUptoRow : OpenClaim := { program := "ytmhhckpdhjnmeaa", sum := "f96d9876f477cc2e41ce14ddde6a8a53ac40960e5de51e1edd8bc940a1e49e96", func := "portreeve/portreevelaw11.FrameDoes", spec := "frameDoes", inPlace := ["math/bits.Add64", "slices.overlaps[portreeve/api.Span]"], unfollowed := true, recurses := true, apart := false, narrowed := true }
def FrameDoesUptoSaid : Prop := frameDoesUptoRow.holds Try.pinned (OpenSpec.upto frameDoesSpec)

/-- 'portreevelaw11.FrameApart', WHERE WHAT IT READS IS OF BULK AT MOST 1048576: true; the input reads as it did. -/
def frameApartUptoRow : OpenClaim := { program := "ytmhhckpdhjnmeaa", sum := "f96d9876f477cc2e41ce14ddde6a8a53ac40960e5de51e1edd8bc940a1e49e96", func := "portreeve/portreevelaw11.FrameApart", spec := "frameApart", inPlace := ["math/bits.Add64", "slices.overlaps[portreeve/api.Span]"], unfollowed := true, recurses := true, apart := false, narrowed := true }
def FrameApartUptoSaid : Prop := frameApartUptoRow.holds Try.pinned (OpenSpec.upto frameApartSpec)

/-- 'portreevelaw11.FrameLasts', WHERE WHAT IT READS IS OF BULK AT MOST 1048576: true; the input reads as it did. -/
def frameLastsUptoRow : OpenClaim := { program := "ytmhhckpdhjnmeaa", sum := "f96d9876f477cc2e41ce14ddde6a8a53ac40960e5de51e1edd8bc940a1e49e96", func := "portreeve/portreevelaw11.FrameLasts", spec := "frameLasts", inPlace := ["math/bits.Add64", "slices.overlaps[portreeve/api.Span]"], unfollowed := true, recurses := true, apart := false, narrowed := true }
def FrameLastsUptoSaid : Prop := frameLastsUptoRow.holds Try.pinned (OpenSpec.upto frameLastsSpec)

/-- 'portreevelaw11.FrameNone', WHERE WHAT IT READS IS OF BULK AT MOST 1048576: true; the input reads as it did. -/
def frameNoneUptoRow : OpenClaim := { program := "ytmhhckpdhjnmeaa", sum := "f96d9876f477cc2e41ce14ddde6a8a53ac40960e5de51e1edd8bc940a1e49e96", func := "portreeve/portreevelaw11.FrameNone", spec := "frameNone", inPlace := ["math/bits.Add64", "slices.overlaps[portreeve/api.Span]"], unfollowed := true, recurses := true, apart := false, narrowed := true }
def FrameNoneUptoSaid : Prop := frameNoneUptoRow.holds Try.pinned (OpenSpec.upto frameNoneSpec)

end Rows
end Go.Proofs.Ytmhhckpdhjnmeaa
