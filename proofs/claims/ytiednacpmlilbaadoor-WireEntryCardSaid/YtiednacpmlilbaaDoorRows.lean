/-
  NARROWER THAN 'FOR EVERY INPUT', by the rows' own cells (each row's printed sentence says how): WireEntry: laid · WireMessage: laid · WireCommand: laid · WireState: laid · WireFrame: laid · WireBack: laid.
  DERIVED. THE GIVEN ROWS OF THIS SEAT. 6 by the template 'for every input the law returns true; each argument reads behind the call as it read before'; 0 by the template 'total and deterministic' (their statements: YtiednacpmlilbaaDoorTotals.lean).
  GIVEN WITH THE SEED: the statements are not yours to turn. If you find one false, say at which input.
  Laid BY PROGRAM, IN A SANDBOX (cutbox-rows.mjs): the forced cells as the released guide's own fill.sh prints them over the translation b04517288079ea91… (all of the seat's roots in one cut). By AI agents, Wed Nov 11 2026. No macro, syntax, notation, axiom, sorry.
-/
import Derived.Test.YtiednacpmlilbaaDoorChecked
import GoSem.Claim
import GoSem.ClaimJoined
import GoSem.ClaimMapViews
import Derived.JoinedTies
import Derived.KernelRfl
namespace Go.Proofs.YtiednacpmlilbaaDoor
/- THE CELL 'sum', in the pinned program and in every row, IS THE sha256 OF THE DUMP (.gsa) THAT YtiednacpmlilbaaDoorProg.lean LOADS. Nothing in Lean hashes anything: it is a label: what it is worth is what the hold of that sum in a sandbox is worth. -/
noncomputable def Tryd.pinned : Pinned := { name := "ytiednacpmlilbaadoor", sum := "b04517288079ea91fa90d8a6465b48357e9a78b11fff06757ff0c289501871c2", checked := Tryd.checked }
namespace Rows
def none {H : Type} : Left H := { results := [], args := [] }

/- WHAT THE LISTED PACKAGE-LEVEL VARIABLES READ AS WHEN THE CALL BEGINS. Each datum BY PROGRAM (the guide's laid-datum.mjs) off the statement by which the dump's own 'gosem.cut.vars' lays the variable. In a bare row this is a premise. The card (YtiednacpmlilbaaDoorCards.lean) ties it to the program's text. -/
def laid_weir_sums_steps {H : Type} : DataW H := .agg [.lit (.int .u32 0), .lit (.int .u32 498536548), .lit (.int .u32 997073096), .lit (.int .u32 651767980), .lit (.int .u32 1994146192), .lit (.int .u32 1802195444), .lit (.int .u32 1303535960), .lit (.int .u32 1342533948), .lit (.int .u32 3988292384), .lit (.int .u32 4027552580), .lit (.int .u32 3604390888), .lit (.int .u32 3412177804), .lit (.int .u32 2607071920), .lit (.int .u32 2262029012), .lit (.int .u32 2685067896), .lit (.int .u32 3183342108)]

/-- 'weirlaw05.WireEntry': WHATEVER THE INPUT: true; the input reads as it did. -/
def wireEntrySpec : ChangeSpec := { name := "wireEntry", fn := fun _ => fun
  | [d1, d2] => { results := [.lit (.bool true)], args := [d1, d2] }
  | _ => none }
def wireEntryRow : OpenClaim := { program := "ytiednacpmlilbaadoor", sum := "b04517288079ea91fa90d8a6465b48357e9a78b11fff06757ff0c289501871c2", func := "weir/weirlaw05.WireEntry", spec := "wireEntry", unfollowed := true, recurses := true, named := ["weir/sums.steps"], apart := false, laid := [("weir/sums.steps", laid_weir_sums_steps)] }
def WireEntrySaid : Prop := wireEntryRow.holds Tryd.pinned (OpenSpec.ofChange wireEntrySpec)

/-- ITS FALSE NEIGHBOUR: 'it returns false'. Refute it at one input. -/
def wireEntryWrong : ChangeSpec := { name := "wireEntry", fn := fun _ => fun
  | [d1, d2] => { results := [.lit (.bool false)], args := [d1, d2] }
  | _ => none }
def WireEntryWrongFalsely : Prop := wireEntryRow.holds Tryd.pinned (OpenSpec.ofChange wireEntryWrong)

/-- 'weirlaw05.WireMessage': WHATEVER THE INPUT: true; the input reads as it did. -/
def wireMessageSpec : ChangeSpec := { name := "wireMessage", fn := fun _ => fun
  | [d1, d2] => { results := [.lit (.bool true)], args := [d1, d2] }
  | _ => none }
def wireMessageRow : OpenClaim := { program := "ytiednacpmlilbaadoor", sum := "b04517288079ea91fa90d8a6465b48357e9a78b11fff06757ff0c289501871c2", func := "weir/weirlaw05.WireMessage", spec := "wireMessage", unfollowed := true, recurses := true, named := ["weir/sums.steps"], apart := false, laid := [("weir/sums.steps", laid_weir_sums_steps)] }
def WireMessageSaid : Prop := wireMessageRow.holds Tryd.pinned (OpenSpec.ofChange wireMessageSpec)

/-- ITS FALSE NEIGHBOUR: 'it returns false'. Refute it at one input. -/
def wireMessageWrong : ChangeSpec := { name := "wireMessage", fn := fun _ => fun
  | [d1, d2] => { results := [.lit (.bool false)], args := [d1, d2] }
  | _ => none }
def WireMessageWrongFalsely : Prop := wireMessageRow.holds Tryd.pinned (OpenSpec.ofChange wireMessageWrong)

/-- 'weirlaw05.WireCommand': WHATEVER THE INPUT: true; the input reads as it did. -/
def wireCommandSpec : ChangeSpec := { name := "wireCommand", fn := fun _ => fun
  | [d1, d2, d3] => { results := [.lit (.bool true)], args := [d1, d2, d3] }
  | _ => none }
def wireCommandRow : OpenClaim := { program := "ytiednacpmlilbaadoor", sum := "b04517288079ea91fa90d8a6465b48357e9a78b11fff06757ff0c289501871c2", func := "weir/weirlaw05.WireCommand", spec := "wireCommand", unfollowed := true, recurses := true, named := ["weir/sums.steps"], apart := false, laid := [("weir/sums.steps", laid_weir_sums_steps)] }
def WireCommandSaid : Prop := wireCommandRow.holds Tryd.pinned (OpenSpec.ofChange wireCommandSpec)

/-- ITS FALSE NEIGHBOUR: 'it returns false'. Refute it at one input. -/
def wireCommandWrong : ChangeSpec := { name := "wireCommand", fn := fun _ => fun
  | [d1, d2, d3] => { results := [.lit (.bool false)], args := [d1, d2, d3] }
  | _ => none }
def WireCommandWrongFalsely : Prop := wireCommandRow.holds Tryd.pinned (OpenSpec.ofChange wireCommandWrong)

/-- 'weirlaw05.WireState': WHATEVER THE INPUT: true; the input reads as it did. -/
def wireStateSpec : ChangeSpec := { name := "wireState", fn := fun _ => fun
  | [d1, d2] => { results := [.lit (.bool true)], args := [d1, d2] }
  | _ => none }
def wireStateRow : OpenClaim := { program := "ytiednacpmlilbaadoor", sum := "b04517288079ea91fa90d8a6465b48357e9a78b11fff06757ff0c289501871c2", func := "weir/weirlaw05.WireState", spec := "wireState", unfollowed := true, recurses := true, named := ["weir/sums.steps"], apart := false, laid := [("weir/sums.steps", laid_weir_sums_steps)] }
def WireStateSaid : Prop := wireStateRow.holds Tryd.pinned (OpenSpec.ofChange wireStateSpec)

/-- ITS FALSE NEIGHBOUR: 'it returns false'. Refute it at one input. -/
def wireStateWrong : ChangeSpec := { name := "wireState", fn := fun _ => fun
  | [d1, d2] => { results := [.lit (.bool false)], args := [d1, d2] }
  | _ => none }
def WireStateWrongFalsely : Prop := wireStateRow.holds Tryd.pinned (OpenSpec.ofChange wireStateWrong)

/-- 'weirlaw05.WireFrame': WHATEVER THE INPUT: true; the input reads as it did. -/
def wireFrameSpec : ChangeSpec := { name := "wireFrame", fn := fun _ => fun
  | [d] => { results := [.lit (.bool true)], args := [d] }
  | _ => none }
def wireFrameRow : OpenClaim := { program := "ytiednacpmlilbaadoor", sum := "b04517288079ea91fa90d8a6465b48357e9a78b11fff06757ff0c289501871c2", func := "weir/weirlaw05.WireFrame", spec := "wireFrame", unfollowed := true, recurses := true, named := ["weir/sums.steps"], apart := false, laid := [("weir/sums.steps", laid_weir_sums_steps)] }
def WireFrameSaid : Prop := wireFrameRow.holds Tryd.pinned (OpenSpec.ofChange wireFrameSpec)

/-- ITS FALSE NEIGHBOUR: 'it returns false'. Refute it at one input. -/
def wireFrameWrong : ChangeSpec := { name := "wireFrame", fn := fun _ => fun
  | [d] => { results := [.lit (.bool false)], args := [d] }
  | _ => none }
def WireFrameWrongFalsely : Prop := wireFrameRow.holds Tryd.pinned (OpenSpec.ofChange wireFrameWrong)

/-- 'weirlaw05.WireBack': WHATEVER THE INPUT: true; the input reads as it did. -/
def wireBackSpec : ChangeSpec := { name := "wireBack", fn := fun _ => fun
  | [d1, d2, d3, d4, d5] => { results := [.lit (.bool true)], args := [d1, d2, d3, d4, d5] }
  | _ => none }
def wireBackRow : OpenClaim := { program := "ytiednacpmlilbaadoor", sum := "b04517288079ea91fa90d8a6465b48357e9a78b11fff06757ff0c289501871c2", func := "weir/weirlaw05.WireBack", spec := "wireBack", unfollowed := true, recurses := true, named := ["weir/sums.steps"], apart := false, laid := [("weir/sums.steps", laid_weir_sums_steps)] }
def WireBackSaid : Prop := wireBackRow.holds Tryd.pinned (OpenSpec.ofChange wireBackSpec)

/-- ITS FALSE NEIGHBOUR: 'it returns false'. Refute it at one input. -/
def wireBackWrong : ChangeSpec := { name := "wireBack", fn := fun _ => fun
  | [d1, d2, d3, d4, d5] => { results := [.lit (.bool false)], args := [d1, d2, d3, d4, d5] }
  | _ => none }
def WireBackWrongFalsely : Prop := wireBackRow.holds Tryd.pinned (OpenSpec.ofChange wireBackWrong)

/- THE SECOND FORM. 'bulk': how many values and letters a reading holds, each counted each time it is reached (what is shared counts as often as it is met; a slice's spare places count too). A statement '..UptoSaid' is the law's where the arguments, and the package variables that the reading takes, are together of bulk at most 1048576: NARROWER than '..Said'. Prove '..Said' where nothing that the law and all that it calls make is longer than what came in: it says more and counts as full. Else prove '..UptoSaid'. A law counts once. -/
mutual
def uptoBulk {H : Type} : DataW H → Nat
  | .lit (.string bytes) => bytes.length + 1
  | .lit _ => 1
  | .nil => 1
  | .ptr d => uptoBulk d + 1
  | .slice elems spare => uptoBulkAll elems + uptoBulkAll spare + 1
  | .agg parts => uptoBulkAll parts + 1
  | .iface _ d => uptoBulk d + 1
  | .map entries => uptoBulkEntries entries + 1
  | .held _ => 1
def uptoBulkAll {H : Type} : List (DataW H) → Nat
  | [] => 0
  | d :: r => uptoBulk d + uptoBulkAll r
def uptoBulkEntries {H : Type} : List (Lit × DataW H) → Nat
  | [] => 0
  | x :: r => uptoBulkEntry x + uptoBulkEntries r
def uptoBulkEntry {H : Type} : Lit × DataW H → Nat
  | (.string bytes, d) => bytes.length + uptoBulk d + 1
  | (_, d) => uptoBulk d + 1
 end
def uptoSmall : (H : Type) → List (DataW H) → Bool := fun _ ds => decide (uptoBulkAll ds ≤ 1048576)
def OpenSpec.upto (s : _root_.Go.ChangeSpec) : _root_.Go.OpenSpec := { _root_.Go.OpenSpec.ofChange s with cond := some uptoSmall }

/-- 'weirlaw05.WireEntry', WHERE WHAT IT READS IS OF BULK AT MOST 1048576: true; the input reads as it did. -/
def wireEntryUptoRow : OpenClaim := { program := "ytiednacpmlilbaadoor", sum := "b04517288079ea91fa90d8a6465b48357e9a78b11fff06757ff0c289501871c2", func := "weir/weirlaw05.WireEntry", spec := "wireEntry", unfollowed := true, recurses := true, named := ["weir/sums.steps"], apart := false, laid := [("weir/sums.steps", laid_weir_sums_steps)], narrowed := true }
def WireEntryUptoSaid : Prop := wireEntryUptoRow.holds Tryd.pinned (OpenSpec.upto wireEntrySpec)

/-- 'weirlaw05.WireMessage', WHERE WHAT IT READS IS OF BULK AT MOST 1048576: true; the input reads as it did. -/
def wireMessageUptoRow : OpenClaim := { program := "ytiednacpmlilbaadoor", sum := "b04517288079ea91fa90d8a6465b48357e9a78b11fff06757ff0c289501871c2", func := "weir/weirlaw05.WireMessage", spec := "wireMessage", unfollowed := true, recurses := true, named := ["weir/sums.steps"], apart := false, laid := [("weir/sums.steps", laid_weir_sums_steps)], narrowed := true }
def WireMessageUptoSaid : Prop := wireMessageUptoRow.holds Tryd.pinned (OpenSpec.upto wireMessageSpec)

/-- 'weirlaw05.WireCommand', WHERE WHAT IT READS IS OF BULK AT MOST 1048576: true; the input reads as it did. -/
def wireCommandUptoRow : OpenClaim := { program := "ytiednacpmlilbaadoor", sum := "b04517288079ea91fa90d8a6465b48357e9a78b11fff06757ff0c289501871c2", func := "weir/weirlaw05.WireCommand", spec := "wireCommand", unfollowed := true, recurses := true, named := ["weir/sums.steps"], apart := false, laid := [("weir/sums.steps", laid_weir_sums_steps)], narrowed := true }
def WireCommandUptoSaid : Prop := wireCommandUptoRow.holds Tryd.pinned (OpenSpec.upto wireCommandSpec)

/-- 'weirlaw05.WireState', WHERE WHAT IT READS IS OF BULK AT MOST 1048576: true; the input reads as it did. -/
def wireStateUptoRow : OpenClaim := { program := "ytiednacpmlilbaadoor", sum := "b04517288079ea91fa90d8a6465b48357e9a78b11fff06757ff0c289501871c2", func := "weir/weirlaw05.WireState", spec := "wireState", unfollowed := true, recurses := true, named := ["weir/sums.steps"], apart := false, laid := [("weir/sums.steps", laid_weir_sums_steps)], narrowed := true }
def WireStateUptoSaid : Prop := wireStateUptoRow.holds Tryd.pinned (OpenSpec.upto wireStateSpec)

/-- 'weirlaw05.WireFrame', WHERE WHAT IT READS IS OF BULK AT MOST 1048576: true; the input reads as it did. -/
def wireFrameUptoRow : OpenClaim := { program := "ytiednacpmlilbaadoor", sum := "b04517288079ea91fa90d8a6465b48357e9a78b11fff06757ff0c289501871c2", func := "weir/weirlaw05.WireFrame", spec := "wireFrame", unfollowed := true, recurses := true, named := ["weir/sums.steps"], apart := false, laid := [("weir/sums.steps", laid_weir_sums_steps)], narrowed := true }
def WireFrameUptoSaid : Prop := wireFrameUptoRow.holds Tryd.pinned (OpenSpec.upto wireFrameSpec)

/-- 'weirlaw05.WireBack', WHERE WHAT IT READS IS OF BULK AT MOST 1048576: true; the input reads as it did. -/
def wireBackUptoRow : OpenClaim := { program := "ytiednacpmlilbaadoor", sum := "b04517288079ea91fa90d8a6465b48357e9a78b11fff06757ff0c289501871c2", func := "weir/weirlaw05.WireBack", spec := "wireBack", unfollowed := true, recurses := true, named := ["weir/sums.steps"], apart := false, laid := [("weir/sums.steps", laid_weir_sums_steps)], narrowed := true }
def WireBackUptoSaid : Prop := wireBackUptoRow.holds Tryd.pinned (OpenSpec.upto wireBackSpec)

end Rows
end Go.Proofs.YtiednacpmlilbaaDoor
