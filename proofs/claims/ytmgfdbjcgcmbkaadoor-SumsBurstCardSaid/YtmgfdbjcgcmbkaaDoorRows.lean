/-
  NARROWER THAN 'FOR EVERY INPUT', by the rows' own cells (each row's printed sentence says how): SumsTell: laid · SumsSigned: laid · SumsPieces: laid · SumsBurst: laid.
  DERIVED. THE GIVEN ROWS OF THIS SEAT. 4 by the template 'for every input the law returns true; each argument reads behind the call as it read before'; 0 by the template 'total and deterministic' (their statements: YtmgfdbjcgcmbkaaDoorTotals.lean).
  GIVEN WITH THE SEED: the statements are not yours to turn. If you find one false, say at which input.
  Laid BY PROGRAM, IN A SANDBOX (cutbox-rows.mjs): the forced cells as the released guide's own fill.sh prints them over the translation 6826cd00a70beac1… (all of the seat's roots in one cut). By AI agents, Wed Nov 11 2026. No macro, syntax, notation, axiom, sorry.
-/
import Derived.Test.YtmgfdbjcgcmbkaaDoorChecked
import GoSem.Claim
import GoSem.ClaimJoined
import GoSem.ClaimMapViews
import Derived.JoinedTies
import Derived.KernelRfl
namespace Go.Proofs.YtmgfdbjcgcmbkaaDoor
/- THE CELL 'sum', in the pinned program and in every row, IS THE sha256 OF THE DUMP (.gsa) THAT YtmgfdbjcgcmbkaaDoorProg.lean LOADS. Nothing in Lean hashes anything: it is a label: what it is worth is what the hold of that sum in a sandbox is worth. -/
noncomputable def Tryd.pinned : Pinned := { name := "ytmgfdbjcgcmbkaadoor", sum := "6826cd00a70beac1d31768a7e14745bc6d7912fae42b30bd2469829ce41dccc0", checked := Tryd.checked }
namespace Rows
def none {H : Type} : Left H := { results := [], args := [] }

/- WHAT THE LISTED PACKAGE-LEVEL VARIABLES READ AS WHEN THE CALL BEGINS. Each datum BY PROGRAM (the guide's laid-datum.mjs) off the statement by which the dump's own 'gosem.cut.vars' lays the variable. In a bare row this is a premise. The card (YtmgfdbjcgcmbkaaDoorCards.lean) ties it to the program's text. -/
def laid_weir_sums_steps {H : Type} : DataW H := .agg [.lit (.int .u32 0), .lit (.int .u32 498536548), .lit (.int .u32 997073096), .lit (.int .u32 651767980), .lit (.int .u32 1994146192), .lit (.int .u32 1802195444), .lit (.int .u32 1303535960), .lit (.int .u32 1342533948), .lit (.int .u32 3988292384), .lit (.int .u32 4027552580), .lit (.int .u32 3604390888), .lit (.int .u32 3412177804), .lit (.int .u32 2607071920), .lit (.int .u32 2262029012), .lit (.int .u32 2685067896), .lit (.int .u32 3183342108)]

/-- 'weirlaw04.SumsTell': WHATEVER THE INPUT: true; the input reads as it did. -/
def sumsTellSpec : ChangeSpec := { name := "sumsTell", fn := fun _ => fun
  | [d1, d2] => { results := [.lit (.bool true)], args := [d1, d2] }
  | _ => none }
def sumsTellRow : OpenClaim := { program := "ytmgfdbjcgcmbkaadoor", sum := "6826cd00a70beac1d31768a7e14745bc6d7912fae42b30bd2469829ce41dccc0", func := "weir/weirlaw04.SumsTell", spec := "sumsTell", named := ["weir/sums.steps"], apart := false, laid := [("weir/sums.steps", laid_weir_sums_steps)] }
def SumsTellSaid : Prop := sumsTellRow.holds Tryd.pinned (OpenSpec.ofChange sumsTellSpec)

/-- ITS FALSE NEIGHBOUR: 'it returns false'. Refute it at one input. -/
def sumsTellWrong : ChangeSpec := { name := "sumsTell", fn := fun _ => fun
  | [d1, d2] => { results := [.lit (.bool false)], args := [d1, d2] }
  | _ => none }
def SumsTellWrongFalsely : Prop := sumsTellRow.holds Tryd.pinned (OpenSpec.ofChange sumsTellWrong)

/-- 'weirlaw04.SumsSigned': WHATEVER THE INPUT: true; the input reads as it did. -/
def sumsSignedSpec : ChangeSpec := { name := "sumsSigned", fn := fun _ => fun
  | [d1, d2] => { results := [.lit (.bool true)], args := [d1, d2] }
  | _ => none }
def sumsSignedRow : OpenClaim := { program := "ytmgfdbjcgcmbkaadoor", sum := "6826cd00a70beac1d31768a7e14745bc6d7912fae42b30bd2469829ce41dccc0", func := "weir/weirlaw04.SumsSigned", spec := "sumsSigned", named := ["weir/sums.steps"], apart := false, laid := [("weir/sums.steps", laid_weir_sums_steps)] }
def SumsSignedSaid : Prop := sumsSignedRow.holds Tryd.pinned (OpenSpec.ofChange sumsSignedSpec)

/-- ITS FALSE NEIGHBOUR: 'it returns false'. Refute it at one input. -/
def sumsSignedWrong : ChangeSpec := { name := "sumsSigned", fn := fun _ => fun
  | [d1, d2] => { results := [.lit (.bool false)], args := [d1, d2] }
  | _ => none }
def SumsSignedWrongFalsely : Prop := sumsSignedRow.holds Tryd.pinned (OpenSpec.ofChange sumsSignedWrong)

/-- 'weirlaw04.SumsPieces': WHATEVER THE INPUT: true; the input reads as it did. -/
def sumsPiecesSpec : ChangeSpec := { name := "sumsPieces", fn := fun _ => fun
  | [d] => { results := [.lit (.bool true)], args := [d] }
  | _ => none }
def sumsPiecesRow : OpenClaim := { program := "ytmgfdbjcgcmbkaadoor", sum := "6826cd00a70beac1d31768a7e14745bc6d7912fae42b30bd2469829ce41dccc0", func := "weir/weirlaw04.SumsPieces", spec := "sumsPieces", named := ["weir/sums.steps"], apart := false, laid := [("weir/sums.steps", laid_weir_sums_steps)] }
def SumsPiecesSaid : Prop := sumsPiecesRow.holds Tryd.pinned (OpenSpec.ofChange sumsPiecesSpec)

/-- ITS FALSE NEIGHBOUR: 'it returns false'. Refute it at one input. -/
def sumsPiecesWrong : ChangeSpec := { name := "sumsPieces", fn := fun _ => fun
  | [d] => { results := [.lit (.bool false)], args := [d] }
  | _ => none }
def SumsPiecesWrongFalsely : Prop := sumsPiecesRow.holds Tryd.pinned (OpenSpec.ofChange sumsPiecesWrong)

/-- 'weirlaw04.SumsBurst': WHATEVER THE INPUT: true; the input reads as it did. -/
def sumsBurstSpec : ChangeSpec := { name := "sumsBurst", fn := fun _ => fun
  | [d1, d2, d3] => { results := [.lit (.bool true)], args := [d1, d2, d3] }
  | _ => none }
def sumsBurstRow : OpenClaim := { program := "ytmgfdbjcgcmbkaadoor", sum := "6826cd00a70beac1d31768a7e14745bc6d7912fae42b30bd2469829ce41dccc0", func := "weir/weirlaw04.SumsBurst", spec := "sumsBurst", named := ["weir/sums.steps"], apart := false, laid := [("weir/sums.steps", laid_weir_sums_steps)] }
def SumsBurstSaid : Prop := sumsBurstRow.holds Tryd.pinned (OpenSpec.ofChange sumsBurstSpec)

/-- ITS FALSE NEIGHBOUR: 'it returns false'. Refute it at one input. -/
def sumsBurstWrong : ChangeSpec := { name := "sumsBurst", fn := fun _ => fun
  | [d1, d2, d3] => { results := [.lit (.bool false)], args := [d1, d2, d3] }
  | _ => none }
def SumsBurstWrongFalsely : Prop := sumsBurstRow.holds Tryd.pinned (OpenSpec.ofChange sumsBurstWrong)

/- THE SECOND FORM. 'bulk': how many values and letters a reading holds, each counted each time it is reached (what is shared counts as often as it is met; a slice's spare places count too). A statement '..UptoSaid' is the law's where the arguments, and the package variables that the reading takes, are together of bulk at most 1048576: NARROWER than '..Said'. Prove '..Said' where nothing that the law and all that it calls make is longer than what came in: it says more and counts as full. Else prove '..UptoSaid'. A law counts once. -/
mutual
def uptoBulk {H : Type} : DataW H → Nat
  | .lit (.string bytes) => bytes.length + 1
  | .lit _ => 1
  | .nil => 1
  | .ptr d => uptoBulk d + 1
  | .slice elems spare => uptoBulkAll elems + uptoBulkAll spare + 1
  | .agg parts => uptoBulkAll parts + 1
  | .iface _ d => uptoBulk d + 1
  | .map entries => uptoBulkEntries entries + 1
  | .held _ => 1
def uptoBulkAll {H : Type} : List (DataW H) → Nat
  | [] => 0
  | d :: r => uptoBulk d + uptoBulkAll r
def uptoBulkEntries {H : Type} : List (Lit × DataW H) → Nat
  | [] => 0
  | x :: r => uptoBulkEntry x + uptoBulkEntries r
def uptoBulkEntry {H : Type} : Lit × DataW H → Nat
  | (.string bytes, d) => bytes.length + uptoBulk d + 1
  | (_, d) => uptoBulk d + 1
 end
def uptoSmall : (H : Type) → List (DataW H) → Bool := fun _ ds => decide (uptoBulkAll ds ≤ 1048576)
def OpenSpec.upto (s : _root_.Go.ChangeSpec) : _root_.Go.OpenSpec := { _root_.Go.OpenSpec.ofChange s with cond := some uptoSmall }

/-- 'weirlaw04.SumsTell', WHERE WHAT IT READS IS OF BULK AT MOST 1048576: true; the input reads as it did. -/
def sumsTellUptoRow : OpenClaim := { program := "ytmgfdbjcgcmbkaadoor", sum := "6826cd00a70beac1d31768a7e14745bc6d7912fae42b30bd2469829ce41dccc0", func := "weir/weirlaw04.SumsTell", spec := "sumsTell", named := ["weir/sums.steps"], apart := false, laid := [("weir/sums.steps", laid_weir_sums_steps)], narrowed := true }
def SumsTellUptoSaid : Prop := sumsTellUptoRow.holds Tryd.pinned (OpenSpec.upto sumsTellSpec)

/-- 'weirlaw04.SumsSigned', WHERE WHAT IT READS IS OF BULK AT MOST 1048576: true; the input reads as it did. -/
def sumsSignedUptoRow : OpenClaim := { program := "ytmgfdbjcgcmbkaadoor", sum := "6826cd00a70beac1d31768a7e14745bc6d7912fae42b30bd2469829ce41dccc0", func := "weir/weirlaw04.SumsSigned", spec := "sumsSigned", named := ["weir/sums.steps"], apart := false, laid := [("weir/sums.steps", laid_weir_sums_steps)], narrowed := true }
def SumsSignedUptoSaid : Prop := sumsSignedUptoRow.holds Tryd.pinned (OpenSpec.upto sumsSignedSpec)

/-- 'weirlaw04.SumsPieces', WHERE WHAT IT READS IS OF BULK AT MOST 1048576: true; the input reads as it did. -/
def sumsPiecesUptoRow : OpenClaim := { program := "ytmgfdbjcgcmbkaadoor", sum := "6826cd00a70beac1d31768a7e14745bc6d7912fae42b30bd2469829ce41dccc0", func := "weir/weirlaw04.SumsPieces", spec := "sumsPieces", named := ["weir/sums.steps"], apart := false, laid := [("weir/sums.steps", laid_weir_sums_steps)], narrowed := true }
def SumsPiecesUptoSaid : Prop := sumsPiecesUptoRow.holds Tryd.pinned (OpenSpec.upto sumsPiecesSpec)

/-- 'weirlaw04.SumsBurst', WHERE WHAT IT READS IS OF BULK AT MOST 1048576: true; the input reads as it did. -/
def sumsBurstUptoRow : OpenClaim := { program := "ytmgfdbjcgcmbkaadoor", sum := "6826cd00a70beac1d31768a7e14745bc6d7912fae42b30bd2469829ce41dccc0", func := "weir/weirlaw04.SumsBurst", spec := "sumsBurst", named := ["weir/sums.steps"], apart := false, laid := [("weir/sums.steps", laid_weir_sums_steps)], narrowed := true }
def SumsBurstUptoSaid : Prop := sumsBurstUptoRow.holds Tryd.pinned (OpenSpec.upto sumsBurstSpec)

end Rows
end Go.Proofs.YtmgfdbjcgcmbkaaDoor
