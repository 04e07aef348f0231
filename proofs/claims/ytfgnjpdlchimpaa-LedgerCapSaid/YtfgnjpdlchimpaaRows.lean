/-
  No cell of these rows narrows 'for every input' (looked for: loops, veiled, ifaces, maps, wideKeys, modest, calm, conditions, laid).
  DERIVED. THE GIVEN ROWS OF THIS SEAT. 6 by the template 'for every input the law returns true; each argument reads behind the call as it read before'; 0 by the template 'total and deterministic' (their statements: YtfgnjpdlchimpaaTotals.lean).
  GIVEN WITH THE SEED: the statements are not yours to turn. If you find one false, say at which input.
  Laid BY PROGRAM, IN A SANDBOX (cutbox-rows.mjs): the forced cells as the released guide's own fill.sh prints them over the translation 1113994bbb5abeb5… (all of the seat's roots in one cut). By AI agents, Wed Nov 11 2026. No macro, syntax, notation, axiom, sorry.
-/
import Derived.Test.YtfgnjpdlchimpaaChecked
import GoSem.Claim
import GoSem.ClaimJoined
import GoSem.ClaimMapViews
import Derived.JoinedTies
import Derived.KernelRfl
namespace Go.Proofs.Ytfgnjpdlchimpaa
/- THE CELL 'sum', in the pinned program and in every row, IS THE sha256 OF THE DUMP (.gsa) THAT YtfgnjpdlchimpaaProg.lean LOADS. Nothing in Lean hashes anything: it is a label: what it is worth is what the hold of that sum in a sandbox is worth. -/
noncomputable def Try.pinned : Pinned := { name := "ytfgnjpdlchimpaa", sum := "1113994bbb5abeb548335f350d5d172f1c04a64ad94d0427324a84d122c487eb", checked := Try.checked }
namespace Rows
def none {H : Type} : Left H := { results := [], args := [] }

/-- 'weirlaw18.LedgerChecks': WHATEVER THE INPUT: true; the input reads as it did. -/
def ledgerChecksSpec : ChangeSpec := { name := "ledgerChecks", fn := fun _ => fun
  | [d1, d2, d3] => { results := [.lit (.bool true)], args := [d1, d2, d3] }
  | _ => none }
def ledgerChecksRow : OpenClaim := { program := "ytfgnjpdlchimpaa", sum := "1113994bbb5abeb548335f350d5d172f1c04a64ad94d0427324a84d122c487eb", func := "weir/weirlaw18.LedgerChecks", spec := "ledgerChecks", unfollowed := true, recurses := true, plainKeys := false, apart := false }
def LedgerChecksSaid : Prop := ledgerChecksRow.holds Try.pinned (OpenSpec.ofChange ledgerChecksSpec)

/-- ITS FALSE NEIGHBOUR: 'it returns false'. Refute it at one input. -/
def ledgerChecksWrong : ChangeSpec := { name := "ledgerChecks", fn := fun _ => fun
  | [d1, d2, d3] => { results := [.lit (.bool false)], args := [d1, d2, d3] }
  | _ => none }
def LedgerChecksWrongFalsely : Prop := ledgerChecksRow.holds Try.pinned (OpenSpec.ofChange ledgerChecksWrong)

/-- 'weirlaw18.LedgerCredits': WHATEVER THE INPUT: true; the input reads as it did. -/
def ledgerCreditsSpec : ChangeSpec := { name := "ledgerCredits", fn := fun _ => fun
  | [d1, d2] => { results := [.lit (.bool true)], args := [d1, d2] }
  | _ => none }
def ledgerCreditsRow : OpenClaim := { program := "ytfgnjpdlchimpaa", sum := "1113994bbb5abeb548335f350d5d172f1c04a64ad94d0427324a84d122c487eb", func := "weir/weirlaw18.LedgerCredits", spec := "ledgerCredits", unfollowed := true, recurses := true, plainKeys := false, apart := false }
def LedgerCreditsSaid : Prop := ledgerCreditsRow.holds Try.pinned (OpenSpec.ofChange ledgerCreditsSpec)

/-- ITS FALSE NEIGHBOUR: 'it returns false'. Refute it at one input. -/
def ledgerCreditsWrong : ChangeSpec := { name := "ledgerCredits", fn := fun _ => fun
  | [d1, d2] => { results := [.lit (.bool false)], args := [d1, d2] }
  | _ => none }
def LedgerCreditsWrongFalsely : Prop := ledgerCreditsRow.holds Try.pinned (OpenSpec.ofChange ledgerCreditsWrong)

/-- 'weirlaw18.LedgerGrants': WHATEVER THE INPUT: true; the input reads as it did. -/
def ledgerGrantsSpec : ChangeSpec := { name := "ledgerGrants", fn := fun _ => fun
  | [d1, d2, d3, d4, d5, d6] => { results := [.lit (.bool true)], args := [d1, d2, d3, d4, d5, d6] }
  | _ => none }
def ledgerGrantsRow : OpenClaim := { program := "ytfgnjpdlchimpaa", sum := "1113994bbb5abeb548335f350d5d172f1c04a64ad94d0427324a84d122c487eb", func := "weir/weirlaw18.LedgerGrants", spec := "ledgerGrants", unfollowed := true, recurses := true, plainKeys := false, apart := false }
def LedgerGrantsSaid : Prop := ledgerGrantsRow.holds Try.pinned (OpenSpec.ofChange ledgerGrantsSpec)

/-- ITS FALSE NEIGHBOUR: 'it returns false'. Refute it at one input. -/
def ledgerGrantsWrong : ChangeSpec := { name := "ledgerGrants", fn := fun _ => fun
  | [d1, d2, d3, d4, d5, d6] => { results := [.lit (.bool false)], args := [d1, d2, d3, d4, d5, d6] }
  | _ => none }
def LedgerGrantsWrongFalsely : Prop := ledgerGrantsRow.holds Try.pinned (OpenSpec.ofChange ledgerGrantsWrong)

/-- 'weirlaw18.LedgerReports': WHATEVER THE INPUT: true; the input reads as it did. -/
def ledgerReportsSpec : ChangeSpec := { name := "ledgerReports", fn := fun _ => fun
  | [d1, d2, d3, d4, d5, d6, d7] => { results := [.lit (.bool true)], args := [d1, d2, d3, d4, d5, d6, d7] }
  | _ => none }
def ledgerReportsRow : OpenClaim := { program := "ytfgnjpdlchimpaa", sum := "1113994bbb5abeb548335f350d5d172f1c04a64ad94d0427324a84d122c487eb", func := "weir/weirlaw18.LedgerReports", spec := "ledgerReports", unfollowed := true, recurses := true, plainKeys := false, apart := false }
def LedgerReportsSaid : Prop := ledgerReportsRow.holds Try.pinned (OpenSpec.ofChange ledgerReportsSpec)

/-- ITS FALSE NEIGHBOUR: 'it returns false'. Refute it at one input. -/
def ledgerReportsWrong : ChangeSpec := { name := "ledgerReports", fn := fun _ => fun
  | [d1, d2, d3, d4, d5, d6, d7] => { results := [.lit (.bool false)], args := [d1, d2, d3, d4, d5, d6, d7] }
  | _ => none }
def LedgerReportsWrongFalsely : Prop := ledgerReportsRow.holds Try.pinned (OpenSpec.ofChange ledgerReportsWrong)

/-- 'weirlaw18.LedgerCap': WHATEVER THE INPUT: true; the input reads as it did. -/
def ledgerCapSpec : ChangeSpec := { name := "ledgerCap", fn := fun _ => fun
  | [d1, d2, d3] => { results := [.lit (.bool true)], args := [d1, d2, d3] }
  | _ => none }
def ledgerCapRow : OpenClaim := { program := "ytfgnjpdlchimpaa", sum := "1113994bbb5abeb548335f350d5d172f1c04a64ad94d0427324a84d122c487eb", func := "weir/weirlaw18.LedgerCap", spec := "ledgerCap", unfollowed := true, recurses := true, plainKeys := false, apart := false }
def LedgerCapSaid : Prop := ledgerCapRow.holds Try.pinned (OpenSpec.ofChange ledgerCapSpec)

/-- ITS FALSE NEIGHBOUR: 'it returns false'. Refute it at one input. -/
def ledgerCapWrong : ChangeSpec := { name := "ledgerCap", fn := fun _ => fun
  | [d1, d2, d3] => { results := [.lit (.bool false)], args := [d1, d2, d3] }
  | _ => none }
def LedgerCapWrongFalsely : Prop := ledgerCapRow.holds Try.pinned (OpenSpec.ofChange ledgerCapWrong)

/-- 'weirlaw18.LedgerLate': WHATEVER THE INPUT: true; the input reads as it did. -/
def ledgerLateSpec : ChangeSpec := { name := "ledgerLate", fn := fun _ => fun
  | [d1, d2, d3] => { results := [.lit (.bool true)], args := [d1, d2, d3] }
  | _ => none }
def ledgerLateRow : OpenClaim := { program := "ytfgnjpdlchimpaa", sum := "1113994bbb5abeb548335f350d5d172f1c04a64ad94d0427324a84d122c487eb", func := "weir/weirlaw18.LedgerLate", spec := "ledgerLate", unfollowed := true, recurses := true, plainKeys := false, apart := false }
def LedgerLateSaid : Prop := ledgerLateRow.holds Try.pinned (OpenSpec.ofChange ledgerLateSpec)

/-- ITS FALSE NEIGHBOUR: 'it returns false'. Refute it at one input. -/
def ledgerLateWrong : ChangeSpec := { name := "ledgerLate", fn := fun _ => fun
  | [d1, d2, d3] => { results := [.lit (.bool false)], args := [d1, d2, d3] }
  | _ => none }
def LedgerLateWrongFalsely : Prop := ledgerLateRow.holds Try.pinned (OpenSpec.ofChange ledgerLateWrong)

/- THE SECOND FORM. 'bulk': how many values and letters a reading holds, each counted each time it is reached (what is shared counts as often as it is met; a slice's spare places count too). A statement '..UptoSaid' is the law's where the arguments, and the package variables that the reading takes, are together of bulk at most 1048576: NARROWER than '..Said'. Prove '..Said' where nothing that the law and all that it calls make is longer than what came in: it says more and counts as full. Else prove '..UptoSaid'. A law counts once. -/
mutual
def uptoBulk {H : Type} : DataW H → Nat
  | .lit (.string bytes) => bytes.length + 1
  | .lit _ => 1
  | .nil => 1
  | .ptr d => uptoBulk d + 1
  | .slice elems spare => uptoBulkAll elems + uptoBulkAll spare + 1
  | .agg parts => uptoBulkAll parts + 1
  | .iface _ d => uptoBulk d + 1
  | .map entries => uptoBulkEntries entries + 1
  | .held _ => 1
def uptoBulkAll {H : Type} : List (DataW H) → Nat
  | [] => 0
  | d :: r => uptoBulk d + uptoBulkAll r
def uptoBulkEntries {H : Type} : List (Lit × DataW H) → Nat
  | [] => 0
  | x :: r => uptoBulkEntry x + uptoBulkEntries r
def uptoBulkEntry {H : Type} : Lit × DataW H → Nat
  | (.string bytes, d) => bytes.length + uptoBulk d + 1
  | (_, d) => uptoBulk d + 1
 end
def uptoSmall : (H : Type) → List (DataW H) → Bool := fun _ ds => decide (uptoBulkAll ds ≤ 1048576)
def OpenSpec.upto (s : _root_.Go.ChangeSpec) : _root_.Go.OpenSpec := { _root_.Go.OpenSpec.ofChange s with cond := some uptoSmall }

/-- 'weirlaw18.LedgerChecks', WHERE WHAT IT READS IS OF BULK AT MOST 1048576: true; the input reads as it did. -/
def ledgerChecksUptoRow : OpenClaim := { program := "ytfgnjpdlchimpaa", sum := "1113994bbb5abeb548335f350d5d172f1c04a64ad94d0427324a84d122c487eb", func := "weir/weirlaw18.LedgerChecks", spec := "ledgerChecks", unfollowed := true, recurses := true, plainKeys := false, apart := false, narrowed := true }
def LedgerChecksUptoSaid : Prop := ledgerChecksUptoRow.holds Try.pinned (OpenSpec.upto ledgerChecksSpec)

/-- 'weirlaw18.LedgerCredits', WHERE WHAT IT READS IS OF BULK AT MOST 1048576: true; the input reads as it did. -/
def ledgerCreditsUptoRow : OpenClaim := { program := "ytfgnjpdlchimpaa", sum := "1113994bbb5abeb548335f350d5d172f1c04a64ad94d0427324a84d122c487eb", func := "weir/weirlaw18.LedgerCredits", spec := "ledgerCredits", unfollowed := true, recurses := true, plainKeys := false, apart := false, narrowed := true }
def LedgerCreditsUptoSaid : Prop := ledgerCreditsUptoRow.holds Try.pinned (OpenSpec.upto ledgerCreditsSpec)

/-- 'weirlaw18.LedgerGrants', WHERE WHAT IT READS IS OF BULK AT MOST 1048576: true; the input reads as it did. -/
def ledgerGrantsUptoRow : OpenClaim := { program := "ytfgnjpdlchimpaa", sum := "1113994bbb5abeb548335f350d5d172f1c04a64ad94d0427324a84d122c487eb", func := "weir/weirlaw18.LedgerGrants", spec := "ledgerGrants", unfollowed := true, recurses := true, plainKeys := false, apart := false, narrowed := true }
def LedgerGrantsUptoSaid : Prop := ledgerGrantsUptoRow.holds Try.pinned (OpenSpec.upto ledgerGrantsSpec)

/-- 'weirlaw18.LedgerReports', WHERE WHAT IT READS IS OF BULK AT MOST 1048576: true; the input reads as it did. -/
def ledgerReportsUptoRow : OpenClaim := { program := "ytfgnjpdlchimpaa", sum := "1113994bbb5abeb548335f350d5d172f1c04a64ad94d0427324a84d122c487eb", func := "weir/weirlaw18.LedgerReports", spec := "ledgerReports", unfollowed := true, recurses := true, plainKeys := false, apart := false, narrowed := true }
def LedgerReportsUptoSaid : Prop := ledgerReportsUptoRow.holds Try.pinned (OpenSpec.upto ledgerReportsSpec)

/-- 'weirlaw18.LedgerCap', WHERE WHAT IT READS IS OF BULK AT MOST 1048576: true; the input reads as it did. -/
def ledgerCapUptoRow : OpenClaim := { program := "ytfgnjpdlchimpaa", sum := "1113994bbb5abeb548335f350d5d172f1c04a64ad94d0427324a84d122c487eb", func := "weir/weirlaw18.LedgerCap", spec := "ledgerCap", unfollowed := true, recurses := true, plainKeys := false, apart := false, narrowed := true }
def LedgerCapUptoSaid : Prop := ledgerCapUptoRow.holds Try.pinned (OpenSpec.upto ledgerCapSpec)

/-- 'weirlaw18.LedgerLate', WHERE WHAT IT READS IS OF BULK AT MOST 1048576: true; the input reads as it did. -/
def ledgerLateUptoRow : OpenClaim := { program := "ytfgnjpdlchimpaa", sum := "1113994bbb5abeb548335f350d5d172f1c04a64ad94d0427324a84d122c487eb", func := "weir/weirlaw18.LedgerLate", spec := "ledgerLate", unfollowed := true, recurses := true, plainKeys := false, apart := false, narrowed := true }
def LedgerLateUptoSaid : Prop := ledgerLateUptoRow.holds Try.pinned (OpenSpec.upto ledgerLateSpec)

end Rows
end Go.Proofs.Ytfgnjpdlchimpaa
