/-
  No cell of these rows narrows 'for every input' (looked for: loops, veiled, ifaces, maps, wideKeys, modest, calm, conditions, laid).
  DERIVED. THE GIVEN ROWS OF THIS SEAT. 7 by the template 'for every input the law returns true; each argument reads behind the call as it read before'; 0 by the template 'total and deterministic' (their statements: YtidheicmaodfgaaTotals.lean).
  GIVEN WITH THE SEED: the statements are not yours to turn. If you find one false, say at which input.
  Laid BY PROGRAM, IN A SANDBOX (cutbox-rows.mjs): the forced cells as the released guide's own fill.sh prints them over the translation 8bd3d4e83885763d… (all of the seat's roots in one cut). By AI agents, Wed Nov 11 2026. No macro, syntax, notation, axiom, sorry.
-/
import Derived.Test.YtidheicmaodfgaaChecked
import GoSem.Claim
import GoSem.ClaimJoined
import GoSem.ClaimMapViews
import Derived.JoinedTies
import Derived.KernelRfl
namespace Go.Proofs.Ytidheicmaodfgaa
/- THE CELL 'sum', in the pinned program and in every row, IS THE sha256 OF THE DUMP (.gsa) THAT YtidheicmaodfgaaProg.lean LOADS. Nothing in Lean hashes anything: it is a label: what it is worth is what the hold of that sum in a sandbox is worth. -/
noncomputable def Try.pinned : Pinned := { name := "ytidheicmaodfgaa", sum := "8bd3d4e83885763d7da1bf80943c9febc07afac8e7dd7738b7fb4e0e5227006f", checked := Try.checked }
namespace Rows
def none {H : Type} : Left H := { results := [], args := [] }

/-- 'weirlaw10.VoteBegins': WHATEVER THE INPUT: true; the input reads as it did. -/
def voteBeginsSpec : ChangeSpec := { name := "voteBegins", fn := fun _ => fun
  | [d1, d2, d3, d4] => { results := [.lit (.bool true)], args := [d1, d2, d3, d4] }
  | _ => none }
def voteBeginsRow : OpenClaim := { program := "ytidheicmaodfgaa", sum := "8bd3d4e83885763d7da1bf80943c9febc07afac8e7dd7738b7fb4e0e5227006f", func := "weir/weirlaw10.VoteBegins", spec := "voteBegins", unfollowed := true, recurses := true, apart := false }
def VoteBeginsSaid : Prop := voteBeginsRow.holds Try.pinned (OpenSpec.ofChange voteBeginsSpec)

/-- ITS FALSE NEIGHBOUR: 'it returns false'. Refute it at one input. -/
def voteBeginsWrong : ChangeSpec := { name := "voteBegins", fn := fun _ => fun
  | [d1, d2, d3, d4] => { results := [.lit (.bool false)], args := [d1, d2, d3, d4] }
  | _ => none }
def VoteBeginsWrongFalsely : Prop := voteBeginsRow.holds Try.pinned (OpenSpec.ofChange voteBeginsWrong)

/-- 'weirlaw10.VoteAnswers': WHATEVER THE INPUT: true; the input reads as it did. -/
def voteAnswersSpec : ChangeSpec := { name := "voteAnswers", fn := fun _ => fun
  | [d1, d2, d3, d4] => { results := [.lit (.bool true)], args := [d1, d2, d3, d4] }
  | _ => none }
def voteAnswersRow : OpenClaim := { program := "ytidheicmaodfgaa", sum := "8bd3d4e83885763d7da1bf80943c9febc07afac8e7dd7738b7fb4e0e5227006f", func := "weir/weirlaw10.VoteAnswers", spec := "voteAnswers", unfollowed := true, recurses := true, apart := false }
def VoteAnswersSaid : Prop := voteAnswersRow.holds Try.pinned (OpenSpec.ofChange voteAnswersSpec)

/-- ITS FALSE NEIGHBOUR: 'it returns false'. Refute it at one input. -/
def voteAnswersWrong : ChangeSpec := { name := "voteAnswers", fn := fun _ => fun
  | [d1, d2, d3, d4] => { results := [.lit (.bool false)], args := [d1, d2, d3, d4] }
  | _ => none }
def VoteAnswersWrongFalsely : Prop := voteAnswersRow.holds Try.pinned (OpenSpec.ofChange voteAnswersWrong)

/-- 'weirlaw10.VoteCounts': WHATEVER THE INPUT: true; the input reads as it did. -/
def voteCountsSpec : ChangeSpec := { name := "voteCounts", fn := fun _ => fun
  | [d1, d2, d3, d4, d5, d6] => { results := [.lit (.bool true)], args := [d1, d2, d3, d4, d5, d6] }
  | _ => none }
def voteCountsRow : OpenClaim := { program := "ytidheicmaodfgaa", sum := "8bd3d4e83885763d7da1bf80943c9febc07afac8e7dd7738b7fb4e0e5227006f", func := "weir/weirlaw10.VoteCounts", spec := "voteCounts", unfollowed := true, recurses := true, apart := false }
def VoteCountsSaid : Prop := voteCountsRow.holds Try.pinned (OpenSpec.ofChange voteCountsSpec)

/-- ITS FALSE NEIGHBOUR: 'it returns false'. Refute it at one input. -/
def voteCountsWrong : ChangeSpec := { name := "voteCounts", fn := fun _ => fun
  | [d1, d2, d3, d4, d5, d6] => { results := [.lit (.bool false)], args := [d1, d2, d3, d4, d5, d6] }
  | _ => none }
def VoteCountsWrongFalsely : Prop := voteCountsRow.holds Try.pinned (OpenSpec.ofChange voteCountsWrong)

/-- 'weirlaw10.VoteOnce': WHATEVER THE INPUT: true; the input reads as it did. -/
def voteOnceSpec : ChangeSpec := { name := "voteOnce", fn := fun _ => fun
  | [d1, d2, d3, d4] => { results := [.lit (.bool true)], args := [d1, d2, d3, d4] }
  | _ => none }
def voteOnceRow : OpenClaim := { program := "ytidheicmaodfgaa", sum := "8bd3d4e83885763d7da1bf80943c9febc07afac8e7dd7738b7fb4e0e5227006f", func := "weir/weirlaw10.VoteOnce", spec := "voteOnce", unfollowed := true, recurses := true, apart := false }
def VoteOnceSaid : Prop := voteOnceRow.holds Try.pinned (OpenSpec.ofChange voteOnceSpec)

/-- ITS FALSE NEIGHBOUR: 'it returns false'. Refute it at one input. -/
def voteOnceWrong : ChangeSpec := { name := "voteOnce", fn := fun _ => fun
  | [d1, d2, d3, d4] => { results := [.lit (.bool false)], args := [d1, d2, d3, d4] }
  | _ => none }
def VoteOnceWrongFalsely : Prop := voteOnceRow.holds Try.pinned (OpenSpec.ofChange voteOnceWrong)

/-- 'weirlaw10.VoteOne': WHATEVER THE INPUT: true; the input reads as it did. -/
def voteOneSpec : ChangeSpec := { name := "voteOne", fn := fun _ => fun
  | [d1, d2, d3] => { results := [.lit (.bool true)], args := [d1, d2, d3] }
  | _ => none }
def voteOneRow : OpenClaim := { program := "ytidheicmaodfgaa", sum := "8bd3d4e83885763d7da1bf80943c9febc07afac8e7dd7738b7fb4e0e5227006f", func := "weir/weirlaw10.VoteOne", spec := "voteOne", unfollowed := true, recurses := true, apart := false }
def VoteOneSaid : Prop := voteOneRow.holds Try.pinned (OpenSpec.ofChange voteOneSpec)

/-- ITS FALSE NEIGHBOUR: 'it returns false'. Refute it at one input. -/
def voteOneWrong : ChangeSpec := { name := "voteOne", fn := fun _ => fun
  | [d1, d2, d3] => { results := [.lit (.bool false)], args := [d1, d2, d3] }
  | _ => none }
def VoteOneWrongFalsely : Prop := voteOneRow.holds Try.pinned (OpenSpec.ofChange voteOneWrong)

/-- 'weirlaw10.VoteNewer': WHATEVER THE INPUT: true; the input reads as it did. -/
def voteNewerSpec : ChangeSpec := { name := "voteNewer", fn := fun _ => fun
  | [d1, d2, d3, d4] => { results := [.lit (.bool true)], args := [d1, d2, d3, d4] }
  | _ => none }
def voteNewerRow : OpenClaim := { program := "ytidheicmaodfgaa", sum := "8bd3d4e83885763d7da1bf80943c9febc07afac8e7dd7738b7fb4e0e5227006f", func := "weir/weirlaw10.VoteNewer", spec := "voteNewer", unfollowed := true, recurses := true, apart := false }
def VoteNewerSaid : Prop := voteNewerRow.holds Try.pinned (OpenSpec.ofChange voteNewerSpec)

/-- ITS FALSE NEIGHBOUR: 'it returns false'. Refute it at one input. -/
def voteNewerWrong : ChangeSpec := { name := "voteNewer", fn := fun _ => fun
  | [d1, d2, d3, d4] => { results := [.lit (.bool false)], args := [d1, d2, d3, d4] }
  | _ => none }
def VoteNewerWrongFalsely : Prop := voteNewerRow.holds Try.pinned (OpenSpec.ofChange voteNewerWrong)

/-- 'weirlaw10.VoteTimeout': WHATEVER THE INPUT: true; the input reads as it did. -/
def voteTimeoutSpec : ChangeSpec := { name := "voteTimeout", fn := fun _ => fun
  | [d1, d2] => { results := [.lit (.bool true)], args := [d1, d2] }
  | _ => none }
def voteTimeoutRow : OpenClaim := { program := "ytidheicmaodfgaa", sum := "8bd3d4e83885763d7da1bf80943c9febc07afac8e7dd7738b7fb4e0e5227006f", func := "weir/weirlaw10.VoteTimeout", spec := "voteTimeout", unfollowed := true, recurses := true, apart := false }
def VoteTimeoutSaid : Prop := voteTimeoutRow.holds Try.pinned (OpenSpec.ofChange voteTimeoutSpec)

/-- ITS FALSE NEIGHBOUR: 'it returns false'. Refute it at one input. -/
def voteTimeoutWrong : ChangeSpec := { name := "voteTimeout", fn := fun _ => fun
  | [d1, d2] => { results := [.lit (.bool false)], args := [d1, d2] }
  | _ => none }
def VoteTimeoutWrongFalsely : Prop := voteTimeoutRow.holds Try.pinned (OpenSpec.ofChange voteTimeoutWrong)

/- THE SECOND FORM. 'bulk': how many values and letters a reading holds, each counted each time it is reached (what is shared counts as often as it is met; a slice's spare places count too). A statement '..UptoSaid' is the law's where the arguments, and the package variables that the reading takes, are together of bulk at most 1048576: NARROWER than '..Said'. Prove '..Said' where nothing that the law and all that it calls make is longer than what came in: it says more and counts as full. Else prove '..UptoSaid'. A law counts once. -/
mutual
def uptoBulk {H : Type} : DataW H → Nat
  | .lit (.string bytes) => bytes.length + 1
  | .lit _ => 1
  | .nil => 1
  | .ptr d => uptoBulk d + 1
  | .slice elems spare => uptoBulkAll elems + uptoBulkAll spare + 1
  | .agg parts => uptoBulkAll parts + 1
  | .iface _ d => uptoBulk d + 1
  | .map entries => uptoBulkEntries entries + 1
  | .held _ => 1
def uptoBulkAll {H : Type} : List (DataW H) → Nat
  | [] => 0
  | d :: r => uptoBulk d + uptoBulkAll r
def uptoBulkEntries {H : Type} : List (Lit × DataW H) → Nat
  | [] => 0
  | x :: r => uptoBulkEntry x + uptoBulkEntries r
def uptoBulkEntry {H : Type} : Lit × DataW H → Nat
  | (.string bytes, d) => bytes.length + uptoBulk d + 1
  | (_, d) => uptoBulk d + 1
 end
def uptoSmall : (H : Type) → List (DataW H) → Bool := fun _ ds => decide (uptoBulkAll ds ≤ 1048576)
def OpenSpec.upto (s : _root_.Go.ChangeSpec) : _root_.Go.OpenSpec := { _root_.Go.OpenSpec.ofChange s with cond := some uptoSmall }

/-- 'weirlaw10.VoteBegins', WHERE WHAT IT READS IS OF BULK AT MOST 1048576: true; the input reads as it did. -/
def voteBeginsUptoRow : OpenClaim := { program := "ytidheicmaodfgaa", sum := "8bd3d4e83885763d7da1bf80943c9febc07afac8e7dd7738b7fb4e0e5227006f", func := "weir/weirlaw10.VoteBegins", spec := "voteBegins", unfollowed := true, recurses := true, apart := false, narrowed := true }
def VoteBeginsUptoSaid : Prop := voteBeginsUptoRow.holds Try.pinned (OpenSpec.upto voteBeginsSpec)

/-- 'weirlaw10.VoteAnswers', WHERE WHAT IT READS IS OF BULK AT MOST 1048576: true; the input reads as it did. -/
def voteAnswersUptoRow : OpenClaim := { program := "ytidheicmaodfgaa", sum := "8bd3d4e83885763d7da1bf80943c9febc07afac8e7dd7738b7fb4e0e5227006f", func := "weir/weirlaw10.VoteAnswers", spec := "voteAnswers", unfollowed := true, recurses := true, apart := false, narrowed := true }
def VoteAnswersUptoSaid : Prop := voteAnswersUptoRow.holds Try.pinned (OpenSpec.upto voteAnswersSpec)

/-- 'weirlaw10.VoteCounts', WHERE WHAT IT READS IS OF BULK AT MOST 1048576: true; the input reads as it did. -/
def voteCountsUptoRow : OpenClaim := { program := "ytidheicmaodfgaa", sum := "8bd3d4e83885763d7da1bf80943c9febc07afac8e7dd7738b7fb4e0e5227006f", func := "weir/weirlaw10.VoteCounts", spec := "voteCounts", unfollowed := true, recurses := true, apart := false, narrowed := true }
def VoteCountsUptoSaid : Prop := voteCountsUptoRow.holds Try.pinned (OpenSpec.upto voteCountsSpec)

/-- 'weirlaw10.VoteOnce', WHERE WHAT IT READS IS OF BULK AT MOST 1048576: true; the input reads as it did. -/
def voteOnceUptoRow : OpenClaim := { program := "ytidheicmaodfgaa", sum := "8bd3d4e83885763d7da1bf80943c9febc07afac8e7dd7738b7fb4e0e5227006f", func := "weir/weirlaw10.VoteOnce", spec := "voteOnce", unfollowed := true, recurses := true, apart := false, narrowed := true }
def VoteOnceUptoSaid : Prop := voteOnceUptoRow.holds Try.pinned (OpenSpec.upto voteOnceSpec)

/-- 'weirlaw10.VoteOne', WHERE WHAT IT READS IS OF BULK AT MOST 1048576: true; the input reads as it did. -/
def voteOneUptoRow : OpenClaim := { program := "ytidheicmaodfgaa", sum := "8bd3d4e83885763d7da1bf80943c9febc07afac8e7dd7738b7fb4e0e5227006f", func := "weir/weirlaw10.VoteOne", spec := "voteOne", unfollowed := true, recurses := true, apart := false, narrowed := true }
def VoteOneUptoSaid : Prop := voteOneUptoRow.holds Try.pinned (OpenSpec.upto voteOneSpec)

/-- 'weirlaw10.VoteNewer', WHERE WHAT IT READS IS OF BULK AT MOST 1048576: true; the input reads as it did. -/
def voteNewerUptoRow : OpenClaim := { program := "ytidheicmaodfgaa", sum := "8bd3d4e83885763d7da1bf80943c9febc07afac8e7dd7738b7fb4e0e5227006f", func := "weir/weirlaw10.VoteNewer", spec := "voteNewer", unfollowed := true, recurses := true, apart := false, narrowed := true }
def VoteNewerUptoSaid : Prop := voteNewerUptoRow.holds Try.pinned (OpenSpec.upto voteNewerSpec)

/-- 'weirlaw10.VoteTimeout', WHERE WHAT IT READS IS OF BULK AT MOST 1048576: true; the input reads as it did. -/
def voteTimeoutUptoRow : OpenClaim := { program := "ytidheicmaodfgaa", sum := "8bd3d4e83885763d7da1bf80943c9febc07afac8e7dd7738b7fb4e0e5227006f", func := "weir/weirlaw10.VoteTimeout", spec := "voteTimeout", unfollowed := true, recurses := true, apart := false, narrowed := true }
def VoteTimeoutUptoSaid : Prop := voteTimeoutUptoRow.holds Try.pinned (OpenSpec.upto voteTimeoutSpec)

end Rows
end Go.Proofs.Ytidheicmaodfgaa
