/-
  NARROWER THAN 'FOR EVERY INPUT', by the rows' own cells (each row's printed sentence says how): CfgParses: laid · CfgOnce: laid · CfgCuts: laid · CfgTells: laid.
  DERIVED. THE GIVEN ROWS OF THIS SEAT. 4 by the template 'for every input the law returns true; each argument reads behind the call as it read before'; 0 by the template 'total and deterministic' (their statements: YtmcpmcicolpoeaaDoorTotals.lean).
  GIVEN WITH THE SEED: the statements are not yours to turn. If you find one false, say at which input.
  Laid BY PROGRAM, IN A SANDBOX (cutbox-rows.mjs): the forced cells as the released guide's own fill.sh prints them over the translation 93f632c44d580599… (all of the seat's roots in one cut). By AI agents, Wed Nov 11 2026. No macro, syntax, notation, axiom, sorry.
-/
import Derived.Test.YtmcpmcicolpoeaaDoorChecked
import GoSem.PinnedTables
import GoSem.Claim
import GoSem.ClaimJoined
import GoSem.ClaimMapViews
import Derived.JoinedTies
import Derived.KernelRfl
namespace Go.Proofs.YtmcpmcicolpoeaaDoor
/- THE CELL 'sum', in the pinned program and in every row, IS THE sha256 OF THE DUMP (.gsa) THAT YtmcpmcicolpoeaaDoorProg.lean LOADS. Nothing in Lean hashes anything: it is a label: what it is worth is what the hold of that sum in a sandbox is worth. -/
noncomputable def Tryd.pinned : Pinned := { name := "ytmcpmcicolpoeaadoor", sum := "93f632c44d5805996774755208e9bff45797728716115fcc1aeaec37c28bfae8", checked := Tryd.checked }
namespace Rows
def none {H : Type} : Left H := { results := [], args := [] }

/- WHAT THE LISTED PACKAGE-LEVEL VARIABLES READ AS WHEN THE CALL BEGINS. Each datum BY PROGRAM (the guide's laid-datum.mjs) off the statement by which the dump's own 'gosem.cut.vars' lays the variable. In a bare row this is a premise. The card (YtmcpmcicolpoeaaDoorCards.lean) ties it to the program's text. -/
def laid_unicode_utf8_acceptRanges {H : Type} : DataW H := .agg [.agg [.lit (.int .u8 128), .lit (.int .u8 191)], .agg [.lit (.int .u8 160), .lit (.int .u8 191)], .agg [.lit (.int .u8 128), .lit (.int .u8 159)], .agg [.lit (.int .u8 144), .lit (.int .u8 191)], .agg [.lit (.int .u8 128), .lit (.int .u8 143)], .agg [.lit (.int .u8 0), .lit (.int .u8 0)], .agg [.lit (.int .u8 0), .lit (.int .u8 0)], .agg [.lit (.int .u8 0), .lit (.int .u8 0)], .agg [.lit (.int .u8 0), .lit (.int .u8 0)], .agg [.lit (.int .u8 0), .lit (.int .u8 0)], .agg [.lit (.int .u8 0), .lit (.int .u8 0)], .agg [.lit (.int .u8 0), .lit (.int .u8 0)], .agg [.lit (.int .u8 0), .lit (.int .u8 0)], .agg [.lit (.int .u8 0), .lit (.int .u8 0)], .agg [.lit (.int .u8 0), .lit (.int .u8 0)], .agg [.lit (.int .u8 0), .lit (.int .u8 0)]]
/-- One of Go's own tables, pinned by name: the form's constant. -/
def laid_unicode_utf8_first : DataW Unit := Go.Pinned.utf8First

/-- 'portreevelaw14.CfgParses': WHATEVER THE INPUT: true; the input reads as it did. -/
def cfgParsesSpec : ChangeSpec := { name := "cfgParses", fn := fun _ => fun
  | [d] => { results := [.lit (.bool true)], args := [d] }
  | _ => none }
def cfgParsesRow : OpenClaim := { program := "ytmcpmcicolpoeaadoor", sum := "93f632c44d5805996774755208e9bff45797728716115fcc1aeaec37c28bfae8", func := "portreeve/portreevelaw14.CfgParses", spec := "cfgParses", unfollowed := true, recurses := true, named := ["unicode/utf8.first", "unicode/utf8.acceptRanges"], apart := false, laid := [("unicode/utf8.acceptRanges", laid_unicode_utf8_acceptRanges), ("unicode/utf8.first", laid_unicode_utf8_first)] }
def CfgParsesSaid : Prop := cfgParsesRow.holds Tryd.pinned (OpenSpec.ofChange cfgParsesSpec)

/-- ITS FALSE NEIGHBOUR: 'it returns false'. Refute it at one input. -/
def cfgParsesWrong : ChangeSpec := { name := "cfgParses", fn := fun _ => fun
  | [d] => { results := [.lit (.bool false)], args := [d] }
  | _ => none }
def CfgParsesWrongFalsely : Prop := cfgParsesRow.holds Tryd.pinned (OpenSpec.ofChange cfgParsesWrong)

/-- 'portreevelaw14.CfgOnce': WHATEVER THE INPUT: true; the input reads as it did. -/
def cfgOnceSpec : ChangeSpec := { name := "cfgOnce", fn := fun _ => fun
  | [d] => { results := [.lit (.bool true)], args := [d] }
  | _ => none }
def cfgOnceRow : OpenClaim := { program := "ytmcpmcicolpoeaadoor", sum := "93f632c44d5805996774755208e9bff45797728716115fcc1aeaec37c28bfae8", func := "portreeve/portreevelaw14.CfgOnce", spec := "cfgOnce", unfollowed := true, recurses := true, named := ["unicode/utf8.first", "unicode/utf8.acceptRanges"], apart := false, laid := [("unicode/utf8.acceptRanges", laid_unicode_utf8_acceptRanges), ("unicode/utf8.first", laid_unicode_utf8_first)] }
def CfgOnceSaid : Prop := cfgOnceRow.holds Tryd.pinned (OpenSpec.ofChange cfgOnceSpec)

/-- ITS FALSE NEIGHBOUR: 'it returns false'. Refute it at one input. -/
def cfgOnceWrong : ChangeSpec := { name := "cfgOnce", fn := fun _ => fun
  | [d] => { results := [.lit (.bool false)], args := [d] }
  | _ => none }
def CfgOnceWrongFalsely : Prop := cfgOnceRow.holds Tryd.pinned (OpenSpec.ofChange cfgOnceWrong)

/-- 'portreevelaw14.CfgCuts': WHATEVER THE INPUT: true; the input reads as it did. -/
def cfgCutsSpec : ChangeSpec := { name := "cfgCuts", fn := fun _ => fun
  | [d1, d2, d3] => { results := [.lit (.bool true)], args := [d1, d2, d3] }
  | _ => none }
def cfgCutsRow : OpenClaim := { program := "ytmcpmcicolpoeaadoor", sum := "93f632c44d5805996774755208e9bff45797728716115fcc1aeaec37c28bfae8", func := "portreeve/portreevelaw14.CfgCuts", spec := "cfgCuts", unfollowed := true, recurses := true, named := ["unicode/utf8.first", "unicode/utf8.acceptRanges"], apart := false, laid := [("unicode/utf8.acceptRanges", laid_unicode_utf8_acceptRanges), ("unicode/utf8.first", laid_unicode_utf8_first)] }
def CfgCutsSaid : Prop := cfgCutsRow.holds Tryd.pinned (OpenSpec.ofChange cfgCutsSpec)

/-- ITS FALSE NEIGHBOUR: 'it returns false'. Refute it at one input. -/
def cfgCutsWrong : ChangeSpec := { name := "cfgCuts", fn := fun _ => fun
  | [d1, d2, d3] => { results := [.lit (.bool false)], args := [d1, d2, d3] }
  | _ => none }
def CfgCutsWrongFalsely : Prop := cfgCutsRow.holds Tryd.pinned (OpenSpec.ofChange cfgCutsWrong)

/-- 'portreevelaw14.CfgTells': WHATEVER THE INPUT: true; the input reads as it did. -/
def cfgTellsSpec : ChangeSpec := { name := "cfgTells", fn := fun _ => fun
  | [d1, d2, d3] => { results := [.lit (.bool true)], args := [d1, d2, d3] }
  | _ => none }
def cfgTellsRow : OpenClaim := { program := "ytmcpmcicolpoeaadoor", sum := "93f632c44d5805996774755208e9bff45797728716115fcc1aeaec37c28bfae8", func := "portreeve/portreevelaw14.CfgTells", spec := "cfgTells", unfollowed := true, recurses := true, named := ["unicode/utf8.first", "unicode/utf8.acceptRanges"], apart := false, laid := [("unicode/utf8.acceptRanges", laid_unicode_utf8_acceptRanges), ("unicode/utf8.first", laid_unicode_utf8_first)] }
def CfgTellsSaid : Prop := cfgTellsRow.holds Tryd.pinned (OpenSpec.ofChange cfgTellsSpec)

/-- ITS FALSE NEIGHBOUR: 'it returns false'. Refute it at one input. -/
def cfgTellsWrong : ChangeSpec := { name := "cfgTells", fn := fun _ => fun
  | [d1, d2, d3] => { results := [.lit (.bool false)], args := [d1, d2, d3] }
  | _ => none }
def CfgTellsWrongFalsely : Prop := cfgTellsRow.holds Tryd.pinned (OpenSpec.ofChange cfgTellsWrong)

/- THE SECOND FORM. 'bulk': how many values and letters a reading holds, each counted each time it is reached (what is shared counts as often as it is met; a slice's spare places count too). A statement '..UptoSaid' is the law's where the arguments, and the package variables that the reading takes, are together of bulk at most 1048576: NARROWER than '..Said'. Prove '..Said' where nothing that the law and all that it calls make is longer than what came in: it says more and counts as full. Else prove '..UptoSaid'. A law counts once. -/
mutual
def uptoBulk {H : Type} : DataW H → Nat
  | .lit (.string bytes) => bytes.length + 1
  | .lit _ => 1
  | .nil => 1
  | .ptr d => uptoBulk d + 1
  | .slice elems spare => uptoBulkAll elems + uptoBulkAll spare + 1
  | .agg parts => uptoBulkAll parts + 1
  | .iface _ d => uptoBulk d + 1
  | .map entries => uptoBulkEntries entries + 1
  | .held _ => 1
def uptoBulkAll {H : Type} : List (DataW H) → Nat
  | [] => 0
  | d :: r => uptoBulk d + uptoBulkAll r
def uptoBulkEntries {H : Type} : List (Lit × DataW H) → Nat
  | [] => 0
  | x :: r => uptoBulkEntry x + uptoBulkEntries r
def uptoBulkEntry {H : Type} : Lit × DataW H → Nat
  | (.string bytes, d) => bytes.length + uptoBulk d + 1
  | (_, d) => uptoBulk d + 1
 end
def uptoSmall : (H : Type) → List (DataW H) → Bool := fun _ ds => decide (uptoBulkAll ds ≤ 1048576)
def OpenSpec.upto (s : _root_.Go.ChangeSpec) : _root_.Go.OpenSpec := { _root_.Go.OpenSpec.ofChange s with cond := some uptoSmall }

/-- 'portreevelaw14.CfgParses', WHERE WHAT IT READS IS OF BULK AT MOST 1048576: true; the input reads as it did. -/
def cfgParsesUptoRow : OpenClaim := { program := "ytmcpmcicolpoeaadoor", sum := "93f632c44d5805996774755208e9bff45797728716115fcc1aeaec37c28bfae8", func := "portreeve/portreevelaw14.CfgParses", spec := "cfgParses", unfollowed := true, recurses := true, named := ["unicode/utf8.first", "unicode/utf8.acceptRanges"], apart := false, laid := [("unicode/utf8.acceptRanges", laid_unicode_utf8_acceptRanges), ("unicode/utf8.first", laid_unicode_utf8_first)], narrowed := true }
def CfgParsesUptoSaid : Prop := cfgParsesUptoRow.holds Tryd.pinned (OpenSpec.upto cfgParsesSpec)

/-- 'portreevelaw14.CfgOnce', WHERE WHAT IT READS IS OF BULK AT MOST 1048576: true; the input reads as it did. -/
def cfgOnceUptoRow : OpenClaim := { program := "ytmcpmcicolpoeaadoor", sum := "93f632c44d5805996774755208e9bff45797728716115fcc1aeaec37c28bfae8", func := "portreeve/portreevelaw14.CfgOnce", spec := "cfgOnce", unfollowed := true, recurses := true, named := ["unicode/utf8.first", "unicode/utf8.acceptRanges"], apart := false, laid := [("unicode/utf8.acceptRanges", laid_unicode_utf8_acceptRanges), ("unicode/utf8.first", laid_unicode_utf8_first)], narrowed := true }
def CfgOnceUptoSaid : Prop := cfgOnceUptoRow.holds Tryd.pinned (OpenSpec.upto cfgOnceSpec)

/-- 'portreevelaw14.CfgCuts', WHERE WHAT IT READS IS OF BULK AT MOST 1048576: true; the input reads as it did. -/
def cfgCutsUptoRow : OpenClaim := { program := "ytmcpmcicolpoeaadoor", sum := "93f632c44d5805996774755208e9bff45797728716115fcc1aeaec37c28bfae8", func := "portreeve/portreevelaw14.CfgCuts", spec := "cfgCuts", unfollowed := true, recurses := true, named := ["unicode/utf8.first", "unicode/utf8.acceptRanges"], apart := false, laid := [("unicode/utf8.acceptRanges", laid_unicode_utf8_acceptRanges), ("unicode/utf8.first", laid_unicode_utf8_first)], narrowed := true }
def CfgCutsUptoSaid : Prop := cfgCutsUptoRow.holds Tryd.pinned (OpenSpec.upto cfgCutsSpec)

/-- 'portreevelaw14.CfgTells', WHERE WHAT IT READS IS OF BULK AT MOST 1048576: true; the input reads as it did. -/
def cfgTellsUptoRow : OpenClaim := { program := "ytmcpmcicolpoeaadoor", sum := "93f632c44d5805996774755208e9bff45797728716115fcc1aeaec37c28bfae8", func := "portreeve/portreevelaw14.CfgTells", spec := "cfgTells", unfollowed := true, recurses := true, named := ["unicode/utf8.first", "unicode/utf8.acceptRanges"], apart := false, laid := [("unicode/utf8.acceptRanges", laid_unicode_utf8_acceptRanges), ("unicode/utf8.first", laid_unicode_utf8_first)], narrowed := true }
def CfgTellsUptoSaid : Prop := cfgTellsUptoRow.holds Tryd.pinned (OpenSpec.upto cfgTellsSpec)

end Rows
end Go.Proofs.YtmcpmcicolpoeaaDoor
