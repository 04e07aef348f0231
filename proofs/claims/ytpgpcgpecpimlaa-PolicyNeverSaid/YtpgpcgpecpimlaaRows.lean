/-
  No cell of these rows narrows 'for every input' (looked for: loops, veiled, ifaces, maps, wideKeys, modest, calm, conditions, laid).
  DERIVED. THE GIVEN ROWS OF THIS SEAT. 11 by the template 'for every input the law returns true; each argument reads behind the call as it read before'; 0 by the template 'total and deterministic' (their statements: YtpgpcgpecpimlaaTotals.lean).
  GIVEN WITH THE SEED: the statements are not yours to turn. If you find one false, say at which input.
  Laid BY PROGRAM, IN A SANDBOX (cutbox-rows.mjs): the forced cells as the released guide's own fill.sh prints them over the translation 94fa532c376a99f0… (all of the seat's roots in one cut). By AI agents, Wed Nov 11 2026. No macro, syntax, notation, axiom, sorry.
-/
import Derived.Test.YtpgpcgpecpimlaaChecked
import GoSem.Claim
import GoSem.ClaimJoined
import GoSem.ClaimMapViews
import Derived.JoinedTies
import Derived.KernelRfl
namespace Go.Proofs.Ytpgpcgpecpimlaa
/- THE CELL 'sum', in the pinned program and in every row, IS THE sha256 OF THE DUMP (.gsa) THAT YtpgpcgpecpimlaaProg.lean LOADS. Nothing in Lean hashes anything: it is a label: what it is worth is what the hold of that sum in a sandbox is worth. -/
noncomputable def Try.pinned : Pinned := { name := "ytpgpcgpecpimlaa", sum := "94fa532c376a99f0295a8af46ca874e7074a9b2b462f05f0b2f521704742ac10", checked := Try.checked }
namespace Rows
def none {H : Type} : Left H := { results := [], args := [] }

/-- 'weirlaw25.VirtualTells': WHATEVER THE INPUT: true; the input reads as it did. -/
def virtualTellsSpec : ChangeSpec := { name := "virtualTells", fn := fun _ => fun
  | [d1, d2, d3, d4, d5] => { results := [.lit (.bool true)], args := [d1, d2, d3, d4, d5] }
  | _ => none }
def virtualTellsRow : OpenClaim := { program := "ytpgpcgpecpimlaa", sum := "94fa532c376a99f0295a8af46ca874e7074a9b2b462f05f0b2f521704742ac10", func := "weir/weirlaw25.VirtualTells", spec := "virtualTells", unfollowed := true, recurses := true, apart := false }
def VirtualTellsSaid : Prop := virtualTellsRow.holds Try.pinned (OpenSpec.ofChange virtualTellsSpec)

/-- ITS FALSE NEIGHBOUR: 'it returns false'. Refute it at one input. -/
def virtualTellsWrong : ChangeSpec := { name := "virtualTells", fn := fun _ => fun
  | [d1, d2, d3, d4, d5] => { results := [.lit (.bool false)], args := [d1, d2, d3, d4, d5] }
  | _ => none }
def VirtualTellsWrongFalsely : Prop := virtualTellsRow.holds Try.pinned (OpenSpec.ofChange virtualTellsWrong)

/-- 'weirlaw25.VirtualTags': WHATEVER THE INPUT: true; the input reads as it did. -/
def virtualTagsSpec : ChangeSpec := { name := "virtualTags", fn := fun _ => fun
  | [d1, d2, d3, d4, d5] => { results := [.lit (.bool true)], args := [d1, d2, d3, d4, d5] }
  | _ => none }
def virtualTagsRow : OpenClaim := { program := "ytpgpcgpecpimlaa", sum := "94fa532c376a99f0295a8af46ca874e7074a9b2b462f05f0b2f521704742ac10", func := "weir/weirlaw25.VirtualTags", spec := "virtualTags", unfollowed := true, recurses := true, apart := false }
def VirtualTagsSaid : Prop := virtualTagsRow.holds Try.pinned (OpenSpec.ofChange virtualTagsSpec)

/-- ITS FALSE NEIGHBOUR: 'it returns false'. Refute it at one input. -/
def virtualTagsWrong : ChangeSpec := { name := "virtualTags", fn := fun _ => fun
  | [d1, d2, d3, d4, d5] => { results := [.lit (.bool false)], args := [d1, d2, d3, d4, d5] }
  | _ => none }
def VirtualTagsWrongFalsely : Prop := virtualTagsRow.holds Try.pinned (OpenSpec.ofChange virtualTagsWrong)

/-- 'weirlaw25.VirtualPicks': WHATEVER THE INPUT: true; the input reads as it did. -/
def virtualPicksSpec : ChangeSpec := { name := "virtualPicks", fn := fun _ => fun
  | [d1, d2, d3] => { results := [.lit (.bool true)], args := [d1, d2, d3] }
  | _ => none }
def virtualPicksRow : OpenClaim := { program := "ytpgpcgpecpimlaa", sum := "94fa532c376a99f0295a8af46ca874e7074a9b2b462f05f0b2f521704742ac10", func := "weir/weirlaw25.VirtualPicks", spec := "virtualPicks", unfollowed := true, recurses := true, apart := false }
def VirtualPicksSaid : Prop := virtualPicksRow.holds Try.pinned (OpenSpec.ofChange virtualPicksSpec)

/-- ITS FALSE NEIGHBOUR: 'it returns false'. Refute it at one input. -/
def virtualPicksWrong : ChangeSpec := { name := "virtualPicks", fn := fun _ => fun
  | [d1, d2, d3] => { results := [.lit (.bool false)], args := [d1, d2, d3] }
  | _ => none }
def VirtualPicksWrongFalsely : Prop := virtualPicksRow.holds Try.pinned (OpenSpec.ofChange virtualPicksWrong)

/-- 'weirlaw25.VirtualEligible': WHATEVER THE INPUT: true; the input reads as it did. -/
def virtualEligibleSpec : ChangeSpec := { name := "virtualEligible", fn := fun _ => fun
  | [d1, d2, d3, d4, d5] => { results := [.lit (.bool true)], args := [d1, d2, d3, d4, d5] }
  | _ => none }
def virtualEligibleRow : OpenClaim := { program := "ytpgpcgpecpimlaa", sum := "94fa532c376a99f0295a8af46ca874e7074a9b2b462f05f0b2f521704742ac10", func := "weir/weirlaw25.VirtualEligible", spec := "virtualEligible", unfollowed := true, recurses := true, apart := false }
def VirtualEligibleSaid : Prop := virtualEligibleRow.holds Try.pinned (OpenSpec.ofChange virtualEligibleSpec)

/-- ITS FALSE NEIGHBOUR: 'it returns false'. Refute it at one input. -/
def virtualEligibleWrong : ChangeSpec := { name := "virtualEligible", fn := fun _ => fun
  | [d1, d2, d3, d4, d5] => { results := [.lit (.bool false)], args := [d1, d2, d3, d4, d5] }
  | _ => none }
def VirtualEligibleWrongFalsely : Prop := virtualEligibleRow.holds Try.pinned (OpenSpec.ofChange virtualEligibleWrong)

/-- 'weirlaw23.PacketFlows': WHATEVER THE INPUT: true; the input reads as it did. -/
def packetFlowsSpec : ChangeSpec := { name := "packetFlows", fn := fun _ => fun
  | [d1, d2] => { results := [.lit (.bool true)], args := [d1, d2] }
  | _ => none }
def packetFlowsRow : OpenClaim := { program := "ytpgpcgpecpimlaa", sum := "94fa532c376a99f0295a8af46ca874e7074a9b2b462f05f0b2f521704742ac10", func := "weir/weirlaw23.PacketFlows", spec := "packetFlows", unfollowed := true, recurses := true, apart := false }
def PacketFlowsSaid : Prop := packetFlowsRow.holds Try.pinned (OpenSpec.ofChange packetFlowsSpec)

/-- ITS FALSE NEIGHBOUR: 'it returns false'. Refute it at one input. -/
def packetFlowsWrong : ChangeSpec := { name := "packetFlows", fn := fun _ => fun
  | [d1, d2] => { results := [.lit (.bool false)], args := [d1, d2] }
  | _ => none }
def PacketFlowsWrongFalsely : Prop := packetFlowsRow.holds Try.pinned (OpenSpec.ofChange packetFlowsWrong)

/-- 'weirlaw23.PacketBack': WHATEVER THE INPUT: true; the input reads as it did. -/
def packetBackSpec : ChangeSpec := { name := "packetBack", fn := fun _ => fun
  | [d1, d2, d3] => { results := [.lit (.bool true)], args := [d1, d2, d3] }
  | _ => none }
def packetBackRow : OpenClaim := { program := "ytpgpcgpecpimlaa", sum := "94fa532c376a99f0295a8af46ca874e7074a9b2b462f05f0b2f521704742ac10", func := "weir/weirlaw23.PacketBack", spec := "packetBack", unfollowed := true, recurses := true, apart := false }
def PacketBackSaid : Prop := packetBackRow.holds Try.pinned (OpenSpec.ofChange packetBackSpec)

/-- ITS FALSE NEIGHBOUR: 'it returns false'. Refute it at one input. -/
def packetBackWrong : ChangeSpec := { name := "packetBack", fn := fun _ => fun
  | [d1, d2, d3] => { results := [.lit (.bool false)], args := [d1, d2, d3] }
  | _ => none }
def PacketBackWrongFalsely : Prop := packetBackRow.holds Try.pinned (OpenSpec.ofChange packetBackWrong)

/-- 'weirlaw23.PacketClasses': WHATEVER THE INPUT: true; the input reads as it did. -/
def packetClassesSpec : ChangeSpec := { name := "packetClasses", fn := fun _ => fun
  | [d1, d2, d3] => { results := [.lit (.bool true)], args := [d1, d2, d3] }
  | _ => none }
def packetClassesRow : OpenClaim := { program := "ytpgpcgpecpimlaa", sum := "94fa532c376a99f0295a8af46ca874e7074a9b2b462f05f0b2f521704742ac10", func := "weir/weirlaw23.PacketClasses", spec := "packetClasses", unfollowed := true, recurses := true, apart := false }
def PacketClassesSaid : Prop := packetClassesRow.holds Try.pinned (OpenSpec.ofChange packetClassesSpec)

/-- ITS FALSE NEIGHBOUR: 'it returns false'. Refute it at one input. -/
def packetClassesWrong : ChangeSpec := { name := "packetClasses", fn := fun _ => fun
  | [d1, d2, d3] => { results := [.lit (.bool false)], args := [d1, d2, d3] }
  | _ => none }
def PacketClassesWrongFalsely : Prop := packetClassesRow.holds Try.pinned (OpenSpec.ofChange packetClassesWrong)

/-- 'weirlaw17.PolicyPuts': WHATEVER THE INPUT: true; the input reads as it did. -/
def policyPutsSpec : ChangeSpec := { name := "policyPuts", fn := fun _ => fun
  | [d1, d2, d3, d4, d5] => { results := [.lit (.bool true)], args := [d1, d2, d3, d4, d5] }
  | _ => none }
def policyPutsRow : OpenClaim := { program := "ytpgpcgpecpimlaa", sum := "94fa532c376a99f0295a8af46ca874e7074a9b2b462f05f0b2f521704742ac10", func := "weir/weirlaw17.PolicyPuts", spec := "policyPuts", unfollowed := true, recurses := true, apart := false }
def PolicyPutsSaid : Prop := policyPutsRow.holds Try.pinned (OpenSpec.ofChange policyPutsSpec)

/-- ITS FALSE NEIGHBOUR: 'it returns false'. Refute it at one input. -/
def policyPutsWrong : ChangeSpec := { name := "policyPuts", fn := fun _ => fun
  | [d1, d2, d3, d4, d5] => { results := [.lit (.bool false)], args := [d1, d2, d3, d4, d5] }
  | _ => none }
def PolicyPutsWrongFalsely : Prop := policyPutsRow.holds Try.pinned (OpenSpec.ofChange policyPutsWrong)

/-- 'weirlaw17.PolicyDeletes': WHATEVER THE INPUT: true; the input reads as it did. -/
def policyDeletesSpec : ChangeSpec := { name := "policyDeletes", fn := fun _ => fun
  | [d1, d2, d3] => { results := [.lit (.bool true)], args := [d1, d2, d3] }
  | _ => none }
def policyDeletesRow : OpenClaim := { program := "ytpgpcgpecpimlaa", sum := "94fa532c376a99f0295a8af46ca874e7074a9b2b462f05f0b2f521704742ac10", func := "weir/weirlaw17.PolicyDeletes", spec := "policyDeletes", unfollowed := true, recurses := true, apart := false }
def PolicyDeletesSaid : Prop := policyDeletesRow.holds Try.pinned (OpenSpec.ofChange policyDeletesSpec)

/-- ITS FALSE NEIGHBOUR: 'it returns false'. Refute it at one input. -/
def policyDeletesWrong : ChangeSpec := { name := "policyDeletes", fn := fun _ => fun
  | [d1, d2, d3] => { results := [.lit (.bool false)], args := [d1, d2, d3] }
  | _ => none }
def PolicyDeletesWrongFalsely : Prop := policyDeletesRow.holds Try.pinned (OpenSpec.ofChange policyDeletesWrong)

/-- 'weirlaw17.PolicyFinds': WHATEVER THE INPUT: true; the input reads as it did. -/
def policyFindsSpec : ChangeSpec := { name := "policyFinds", fn := fun _ => fun
  | [d1, d2, d3] => { results := [.lit (.bool true)], args := [d1, d2, d3] }
  | _ => none }
def policyFindsRow : OpenClaim := { program := "ytpgpcgpecpimlaa", sum := "94fa532c376a99f0295a8af46ca874e7074a9b2b462f05f0b2f521704742ac10", func := "weir/weirlaw17.PolicyFinds", spec := "policyFinds", unfollowed := true, recurses := true, apart := false }
def PolicyFindsSaid : Prop := policyFindsRow.holds Try.pinned (OpenSpec.ofChange policyFindsSpec)

/-- ITS FALSE NEIGHBOUR: 'it returns false'. Refute it at one input. -/
def policyFindsWrong : ChangeSpec := { name := "policyFinds", fn := fun _ => fun
  | [d1, d2, d3] => { results := [.lit (.bool false)], args := [d1, d2, d3] }
  | _ => none }
def PolicyFindsWrongFalsely : Prop := policyFindsRow.holds Try.pinned (OpenSpec.ofChange policyFindsWrong)

/-- 'weirlaw17.PolicyNever': WHATEVER THE INPUT: true; the input reads as it did. -/
def policyNeverSpec : ChangeSpec := { name := "policyNever", fn := fun _ => fun
  | [d1, d2, d3, d4, d5, d6] => { results := [.lit (.bool true)], args := [d1, d2, d3, d4, d5, d6] }
  | _ => none }
def policyNeverRow : OpenClaim := { program := "ytpgpcgpecpimlaa", sum := "94fa532c376a99f0295a8af46ca874e7074a9b2b462f05f0b2f521704742ac10", func := "weir/weirlaw17.PolicyNever", spec := "policyNever", unfollowed := true, recurses := true, apart := false }
def PolicyNeverSaid : Prop := policyNeverRow.holds Try.pinned (OpenSpec.ofChange policyNeverSpec)

/-- ITS FALSE NEIGHBOUR: 'it returns false'. Refute it at one input. -/
def policyNeverWrong : ChangeSpec := { name := "policyNever", fn := fun _ => fun
  | [d1, d2, d3, d4, d5, d6] => { results := [.lit (.bool false)], args := [d1, d2, d3, d4, d5, d6] }
  | _ => none }
def PolicyNeverWrongFalsely : Prop := policyNeverRow.holds Try.pinned (OpenSpec.ofChange policyNeverWrong)

/- THE SECOND FORM. 'bulk': how many values and letters a reading holds, each counted each time it is reached (what is shared counts as often as it is met; a slice's spare places count too). A statement '..UptoSaid' is the law's where the arguments, and the package variables that the reading takes, are together of bulk at most 1048576: NARROWER than '..Said'. Prove '..Said' where nothing that the law and all that it calls make is longer than what came in: it says more and counts as full. Else prove '..UptoSaid'. A law counts once. -/
mutual
def uptoBulk {H : Type} : DataW H → Nat
  | .lit (.string bytes) => bytes.length + 1
  | .lit _ => 1
  | .nil => 1
  | .ptr d => uptoBulk d + 1
  | .slice elems spare => uptoBulkAll elems + uptoBulkAll spare + 1
  | .agg parts => uptoBulkAll parts + 1
  | .iface _ d => uptoBulk d + 1
  | .map entries => uptoBulkEntries entries + 1
  | .held _ => 1
def uptoBulkAll {H : Type} : List (DataW H) → Nat
  | [] => 0
  | d :: r => uptoBulk d + uptoBulkAll r
def uptoBulkEntries {H : Type} : List (Lit × DataW H) → Nat
  | [] => 0
  | x :: r => uptoBulkEntry x + uptoBulkEntries r
def uptoBulkEntry {H : Type} : Lit × DataW H → Nat
  | (.string bytes, d) => bytes.length + uptoBulk d + 1
  | (_, d) => uptoBulk d + 1
 end
def uptoSmall : (H : Type) → List (DataW H) → Bool := fun _ ds => decide (uptoBulkAll ds ≤ 1048576)
def OpenSpec.upto (s : _root_.Go.ChangeSpec) : _root_.Go.OpenSpec := { _root_.Go.OpenSpec.ofChange s with cond := some uptoSmall }

/-- 'weirlaw25.VirtualTells', WHERE WHAT IT READS IS OF BULK AT MOST 1048576: true; the input reads as it did. -/
def virtualTellsUptoRow : OpenClaim := { program := "ytpgpcgpecpimlaa", sum := "94fa532c376a99f0295a8af46ca874e7074a9b2b462f05f0b2f521704742ac10", func := "weir/weirlaw25.VirtualTells", spec := "virtualTells", unfollowed := true, recurses := true, apart := false, narrowed := true }
def VirtualTellsUptoSaid : Prop := virtualTellsUptoRow.holds Try.pinned (OpenSpec.upto virtualTellsSpec)

/-- 'weirlaw25.VirtualTags', WHERE WHAT IT READS IS OF BULK AT MOST 1048576: true; the input reads as it did. -/
def virtualTagsUptoRow : OpenClaim := { program := "ytpgpcgpecpimlaa", sum := "94fa532c376a99f0295a8af46ca874e7074a9b2b462f05f0b2f521704742ac10", func := "weir/weirlaw25.VirtualTags", spec := "virtualTags", unfollowed := true, recurses := true, apart := false, narrowed := true }
def VirtualTagsUptoSaid : Prop := virtualTagsUptoRow.holds Try.pinned (OpenSpec.upto virtualTagsSpec)

/-- 'weirlaw25.VirtualPicks', WHERE WHAT IT READS IS OF BULK AT MOST 1048576: true; the input reads as it did. -/
def virtualPicksUptoRow : OpenClaim := { program := "ytpgpcgpecpimlaa", sum := "94fa532c376a99f0295a8af46ca874e7074a9b2b462f05f0b2f521704742ac10", func := "weir/weirlaw25.VirtualPicks", spec := "virtualPicks", unfollowed := true, recurses := true, apart := false, narrowed := true }
def VirtualPicksUptoSaid : Prop := virtualPicksUptoRow.holds Try.pinned (OpenSpec.upto virtualPicksSpec)

/-- 'weirlaw25.VirtualEligible', WHERE WHAT IT READS IS OF BULK AT MOST 1048576: true; the input reads as it did. -/
def virtualEligibleUptoRow : OpenClaim := { program := "ytpgpcgpecpimlaa", sum := "94fa532c376a99f0295a8af46ca874e7074a9b2b462f05f0b2f521704742ac10", func := "weir/weirlaw25.VirtualEligible", spec := "virtualEligible", unfollowed := true, recurses := true, apart := false, narrowed := true }
def VirtualEligibleUptoSaid : Prop := virtualEligibleUptoRow.holds Try.pinned (OpenSpec.upto virtualEligibleSpec)

/-- 'weirlaw23.PacketFlows', WHERE WHAT IT READS IS OF BULK AT MOST 1048576: true; the input reads as it did. -/
def packetFlowsUptoRow : OpenClaim := { program := "ytpgpcgpecpimlaa", sum := "94fa532c376a99f0295a8af46ca874e7074a9b2b462f05f0b2f521704742ac10", func := "weir/weirlaw23.PacketFlows", spec := "packetFlows", unfollowed := true, recurses := true, apart := false, narrowed := true }
def PacketFlowsUptoSaid : Prop := packetFlowsUptoRow.holds Try.pinned (OpenSpec.upto packetFlowsSpec)

/-- 'weirlaw23.PacketBack', WHERE WHAT IT READS IS OF BULK AT MOST 1048576: true; the input reads as it did. -/
def packetBackUptoRow : OpenClaim := { program := "ytpgpcgpecpimlaa", sum := "94fa532c376a99f0295a8af46ca874e7074a9b2b462f05f0b2f521704742ac10", func := "weir/weirlaw23.PacketBack", spec := "packetBack", unfollowed := true, recurses := true, apart := false, narrowed := true }
def PacketBackUptoSaid : Prop := packetBackUptoRow.holds Try.pinned (OpenSpec.upto packetBackSpec)

/-- 'weirlaw23.PacketClasses', WHERE WHAT IT READS IS OF BULK AT MOST 1048576: true; the input reads as it did. -/
def packetClassesUptoRow : OpenClaim := { program := "ytpgpcgpecpimlaa", sum := "94fa532c376a99f0295a8af46ca874e7074a9b2b462f05f0b2f521704742ac10", func := "weir/weirlaw23.PacketClasses", spec := "packetClasses", unfollowed := true, recurses := true, apart := false, narrowed := true }
def PacketClassesUptoSaid : Prop := packetClassesUptoRow.holds Try.pinned (OpenSpec.upto packetClassesSpec)

/-- 'weirlaw17.PolicyPuts', WHERE WHAT IT READS IS OF BULK AT MOST 1048576: true; the input reads as it did. -/
def policyPutsUptoRow : OpenClaim := { program := "ytpgpcgpecpimlaa", sum := "94fa532c376a99f0295a8af46ca874e7074a9b2b462f05f0b2f521704742ac10", func := "weir/weirlaw17.PolicyPuts", spec := "policyPuts", unfollowed := true, recurses := true, apart := false, narrowed := true }
def PolicyPutsUptoSaid : Prop := policyPutsUptoRow.holds Try.pinned (OpenSpec.upto policyPutsSpec)

/-- 'weirlaw17.PolicyDeletes', WHERE WHAT IT READS IS OF BULK AT MOST 1048576: true; the input reads as it did. -/
def policyDeletesUptoRow : OpenClaim := { program := "ytpgpcgpecpimlaa", sum := "94fa532c376a99f0295a8af46ca874e7074a9b2b462f05f0b2f521704742ac10", func := "weir/weirlaw17.PolicyDeletes", spec := "policyDeletes", unfollowed := true, recurses := true, apart := false, narrowed := true }
def PolicyDeletesUptoSaid : Prop := policyDeletesUptoRow.holds Try.pinned (OpenSpec.upto policyDeletesSpec)

/-- 'weirlaw17.PolicyFinds', WHERE WHAT IT READS IS OF BULK AT MOST 1048576: true; the input reads as it did. -/
def policyFindsUptoRow : OpenClaim := { program := "ytpgpcgpecpimlaa", sum := "94fa532c376a99f0295a8af46ca874e7074a9b2b462f05f0b2f521704742ac10", func := "weir/weirlaw17.PolicyFinds", spec := "policyFinds", unfollowed := true, recurses := true, apart := false, narrowed := true }
def PolicyFindsUptoSaid : Prop := policyFindsUptoRow.holds Try.pinned (OpenSpec.upto policyFindsSpec)

/-- 'weirlaw17.PolicyNever', WHERE WHAT IT READS IS OF BULK AT MOST 1048576: true; the input reads as it did. -/
def policyNeverUptoRow : OpenClaim := { program := "ytpgpcgpecpimlaa", sum := "94fa532c376a99f0295a8af46ca874e7074a9b2b462f05f0b2f521704742ac10", func := "weir/weirlaw17.PolicyNever", spec := "policyNever", unfollowed := true, recurses := true, apart := false, narrowed := true }
def PolicyNeverUptoSaid : Prop := policyNeverUptoRow.holds Try.pinned (OpenSpec.upto policyNeverSpec)

end Rows
end Go.Proofs.Ytpgpcgpecpimlaa
