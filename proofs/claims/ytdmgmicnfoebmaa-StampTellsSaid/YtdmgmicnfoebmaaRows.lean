/-
  No cell of these rows narrows 'for every input' (looked for: loops, veiled, ifaces, maps, wideKeys, modest, calm, conditions, laid).
  DERIVED. THE GIVEN ROWS OF THIS SEAT. 12 by the template 'for every input the law returns true; each argument reads behind the call as it read before'; 0 by the template 'total and deterministic' (their statements: YtdmgmicnfoebmaaTotals.lean).
  GIVEN WITH THE SEED: the statements are not yours to turn. If you find one false, say at which input.
  Laid BY PROGRAM, IN A SANDBOX (cutbox-rows.mjs): the forced cells as the released guide's own fill.sh prints them over the translation fe9fa38c728301b0… (all of the seat's roots in one cut). By AI agents, Wed Nov 11 2026. No macro, syntax, notation, axiom, sorry.
-/
import Derived.Test.YtdmgmicnfoebmaaChecked
import GoSem.Claim
import GoSem.ClaimJoined
import GoSem.ClaimMapViews
import Derived.JoinedTies
import Derived.KernelRfl
namespace Go.Proofs.Ytdmgmicnfoebmaa
/- THE CELL 'sum', in the pinned program and in every row, IS THE sha256 OF THE DUMP (.gsa) THAT YtdmgmicnfoebmaaProg.lean LOADS. Nothing in Lean hashes anything: it is a label: what it is worth is what the hold of that sum in a sandbox is worth. -/
noncomputable def Try.pinned : Pinned := { name := "ytdmgmicnfoebmaa", sum := "fe9fa38c728301b0cb618434551943d4d6be2f077bf6861722db79487d667ba4", checked := Try.checked }
namespace Rows
def none {H : Type} : Left H := { results := [], args := [] }

/-- 'weirlaw03.ClockSteps': WHATEVER THE INPUT: true; the input reads as it did. -/
def clockStepsSpec : ChangeSpec := { name := "clockSteps", fn := fun _ => fun
  | [d1, d2] => { results := [.lit (.bool true)], args := [d1, d2] }
  | _ => none }
def clockStepsRow : OpenClaim := { program := "ytdmgmicnfoebmaa", sum := "fe9fa38c728301b0cb618434551943d4d6be2f077bf6861722db79487d667ba4", func := "weir/weirlaw03.ClockSteps", spec := "clockSteps", unfollowed := true, recurses := true, apart := false }
def ClockStepsSaid : Prop := clockStepsRow.holds Try.pinned (OpenSpec.ofChange clockStepsSpec)

/-- ITS FALSE NEIGHBOUR: 'it returns false'. Refute it at one input. -/
def clockStepsWrong : ChangeSpec := { name := "clockSteps", fn := fun _ => fun
  | [d1, d2] => { results := [.lit (.bool false)], args := [d1, d2] }
  | _ => none }
def ClockStepsWrongFalsely : Prop := clockStepsRow.holds Try.pinned (OpenSpec.ofChange clockStepsWrong)

/-- 'weirlaw03.ClockParts': WHATEVER THE INPUT: true; the input reads as it did. -/
def clockPartsSpec : ChangeSpec := { name := "clockParts", fn := fun _ => fun
  | [d1, d2, d3] => { results := [.lit (.bool true)], args := [d1, d2, d3] }
  | _ => none }
def clockPartsRow : OpenClaim := { program := "ytdmgmicnfoebmaa", sum := "fe9fa38c728301b0cb618434551943d4d6be2f077bf6861722db79487d667ba4", func := "weir/weirlaw03.ClockParts", spec := "clockParts", unfollowed := true, recurses := true, apart := false }
def ClockPartsSaid : Prop := clockPartsRow.holds Try.pinned (OpenSpec.ofChange clockPartsSpec)

/-- ITS FALSE NEIGHBOUR: 'it returns false'. Refute it at one input. -/
def clockPartsWrong : ChangeSpec := { name := "clockParts", fn := fun _ => fun
  | [d1, d2, d3] => { results := [.lit (.bool false)], args := [d1, d2, d3] }
  | _ => none }
def ClockPartsWrongFalsely : Prop := clockPartsRow.holds Try.pinned (OpenSpec.ofChange clockPartsWrong)

/-- 'weirlaw03.ClockBounds': WHATEVER THE INPUT: true; the input reads as it did. -/
def clockBoundsSpec : ChangeSpec := { name := "clockBounds", fn := fun _ => fun
  | [d1, d2, d3] => { results := [.lit (.bool true)], args := [d1, d2, d3] }
  | _ => none }
def clockBoundsRow : OpenClaim := { program := "ytdmgmicnfoebmaa", sum := "fe9fa38c728301b0cb618434551943d4d6be2f077bf6861722db79487d667ba4", func := "weir/weirlaw03.ClockBounds", spec := "clockBounds", unfollowed := true, recurses := true, apart := false }
def ClockBoundsSaid : Prop := clockBoundsRow.holds Try.pinned (OpenSpec.ofChange clockBoundsSpec)

/-- ITS FALSE NEIGHBOUR: 'it returns false'. Refute it at one input. -/
def clockBoundsWrong : ChangeSpec := { name := "clockBounds", fn := fun _ => fun
  | [d1, d2, d3] => { results := [.lit (.bool false)], args := [d1, d2, d3] }
  | _ => none }
def ClockBoundsWrongFalsely : Prop := clockBoundsRow.holds Try.pinned (OpenSpec.ofChange clockBoundsWrong)

/-- 'weirlaw03.ClockOver': WHATEVER THE INPUT: true; the input reads as it did. -/
def clockOverSpec : ChangeSpec := { name := "clockOver", fn := fun _ => fun
  | [d1, d2, d3, d4] => { results := [.lit (.bool true)], args := [d1, d2, d3, d4] }
  | _ => none }
def clockOverRow : OpenClaim := { program := "ytdmgmicnfoebmaa", sum := "fe9fa38c728301b0cb618434551943d4d6be2f077bf6861722db79487d667ba4", func := "weir/weirlaw03.ClockOver", spec := "clockOver", unfollowed := true, recurses := true, apart := false }
def ClockOverSaid : Prop := clockOverRow.holds Try.pinned (OpenSpec.ofChange clockOverSpec)

/-- ITS FALSE NEIGHBOUR: 'it returns false'. Refute it at one input. -/
def clockOverWrong : ChangeSpec := { name := "clockOver", fn := fun _ => fun
  | [d1, d2, d3, d4] => { results := [.lit (.bool false)], args := [d1, d2, d3, d4] }
  | _ => none }
def ClockOverWrongFalsely : Prop := clockOverRow.holds Try.pinned (OpenSpec.ofChange clockOverWrong)

/-- 'weirlaw20.StampTells': WHATEVER THE INPUT: true; the input reads as it did. -/
def stampTellsSpec : ChangeSpec := { name := "stampTells", fn := fun _ => fun
  | [d1, d2, d3] => { results := [.lit (.bool true)], args := [d1, d2, d3] }
  | _ => none }
def stampTellsRow : OpenClaim := { program := "ytdmgmicnfoebmaa", sum := "fe9fa38c728301b0cb618434551943d4d6be2f077bf6861722db79487d667ba4", func := "weir/weirlaw20.StampTells", spec := "stampTells", unfollowed := true, recurses := true, apart := false }
def StampTellsSaid : Prop := stampTellsRow.holds Try.pinned (OpenSpec.ofChange stampTellsSpec)

/-- ITS FALSE NEIGHBOUR: 'it returns false'. Refute it at one input. -/
def stampTellsWrong : ChangeSpec := { name := "stampTells", fn := fun _ => fun
  | [d1, d2, d3] => { results := [.lit (.bool false)], args := [d1, d2, d3] }
  | _ => none }
def StampTellsWrongFalsely : Prop := stampTellsRow.holds Try.pinned (OpenSpec.ofChange stampTellsWrong)

/-- 'weirlaw20.StampCredits': WHATEVER THE INPUT: true; the input reads as it did. -/
def stampCreditsSpec : ChangeSpec := { name := "stampCredits", fn := fun _ => fun
  | [d1, d2, d3, d4, d5, d6, d7] => { results := [.lit (.bool true)], args := [d1, d2, d3, d4, d5, d6, d7] }
  | _ => none }
def stampCreditsRow : OpenClaim := { program := "ytdmgmicnfoebmaa", sum := "fe9fa38c728301b0cb618434551943d4d6be2f077bf6861722db79487d667ba4", func := "weir/weirlaw20.StampCredits", spec := "stampCredits", unfollowed := true, recurses := true, apart := false }
def StampCreditsSaid : Prop := stampCreditsRow.holds Try.pinned (OpenSpec.ofChange stampCreditsSpec)

/-- ITS FALSE NEIGHBOUR: 'it returns false'. Refute it at one input. -/
def stampCreditsWrong : ChangeSpec := { name := "stampCredits", fn := fun _ => fun
  | [d1, d2, d3, d4, d5, d6, d7] => { results := [.lit (.bool false)], args := [d1, d2, d3, d4, d5, d6, d7] }
  | _ => none }
def StampCreditsWrongFalsely : Prop := stampCreditsRow.holds Try.pinned (OpenSpec.ofChange stampCreditsWrong)

/-- 'weirlaw20.StampNever': WHATEVER THE INPUT: true; the input reads as it did. -/
def stampNeverSpec : ChangeSpec := { name := "stampNever", fn := fun _ => fun
  | [d1, d2, d3] => { results := [.lit (.bool true)], args := [d1, d2, d3] }
  | _ => none }
def stampNeverRow : OpenClaim := { program := "ytdmgmicnfoebmaa", sum := "fe9fa38c728301b0cb618434551943d4d6be2f077bf6861722db79487d667ba4", func := "weir/weirlaw20.StampNever", spec := "stampNever", unfollowed := true, recurses := true, apart := false }
def StampNeverSaid : Prop := stampNeverRow.holds Try.pinned (OpenSpec.ofChange stampNeverSpec)

/-- ITS FALSE NEIGHBOUR: 'it returns false'. Refute it at one input. -/
def stampNeverWrong : ChangeSpec := { name := "stampNever", fn := fun _ => fun
  | [d1, d2, d3] => { results := [.lit (.bool false)], args := [d1, d2, d3] }
  | _ => none }
def StampNeverWrongFalsely : Prop := stampNeverRow.holds Try.pinned (OpenSpec.ofChange stampNeverWrong)

/-- 'weirlaw16.BucketTells': WHATEVER THE INPUT: true; the input reads as it did. -/
def bucketTellsSpec : ChangeSpec := { name := "bucketTells", fn := fun _ => fun
  | [d1, d2, d3, d4] => { results := [.lit (.bool true)], args := [d1, d2, d3, d4] }
  | _ => none }
def bucketTellsRow : OpenClaim := { program := "ytdmgmicnfoebmaa", sum := "fe9fa38c728301b0cb618434551943d4d6be2f077bf6861722db79487d667ba4", func := "weir/weirlaw16.BucketTells", spec := "bucketTells", unfollowed := true, recurses := true, apart := false }
def BucketTellsSaid : Prop := bucketTellsRow.holds Try.pinned (OpenSpec.ofChange bucketTellsSpec)

/-- ITS FALSE NEIGHBOUR: 'it returns false'. Refute it at one input. -/
def bucketTellsWrong : ChangeSpec := { name := "bucketTells", fn := fun _ => fun
  | [d1, d2, d3, d4] => { results := [.lit (.bool false)], args := [d1, d2, d3, d4] }
  | _ => none }
def BucketTellsWrongFalsely : Prop := bucketTellsRow.holds Try.pinned (OpenSpec.ofChange bucketTellsWrong)

/-- 'weirlaw16.BucketMoves': WHATEVER THE INPUT: true; the input reads as it did. -/
def bucketMovesSpec : ChangeSpec := { name := "bucketMoves", fn := fun _ => fun
  | [d1, d2, d3, d4, d5, d6] => { results := [.lit (.bool true)], args := [d1, d2, d3, d4, d5, d6] }
  | _ => none }
def bucketMovesRow : OpenClaim := { program := "ytdmgmicnfoebmaa", sum := "fe9fa38c728301b0cb618434551943d4d6be2f077bf6861722db79487d667ba4", func := "weir/weirlaw16.BucketMoves", spec := "bucketMoves", unfollowed := true, recurses := true, apart := false }
def BucketMovesSaid : Prop := bucketMovesRow.holds Try.pinned (OpenSpec.ofChange bucketMovesSpec)

/-- ITS FALSE NEIGHBOUR: 'it returns false'. Refute it at one input. -/
def bucketMovesWrong : ChangeSpec := { name := "bucketMoves", fn := fun _ => fun
  | [d1, d2, d3, d4, d5, d6] => { results := [.lit (.bool false)], args := [d1, d2, d3, d4, d5, d6] }
  | _ => none }
def BucketMovesWrongFalsely : Prop := bucketMovesRow.holds Try.pinned (OpenSpec.ofChange bucketMovesWrong)

/-- 'weirlaw16.BucketCap': WHATEVER THE INPUT: true; the input reads as it did. -/
def bucketCapSpec : ChangeSpec := { name := "bucketCap", fn := fun _ => fun
  | [d1, d2, d3, d4, d5, d6, d7] => { results := [.lit (.bool true)], args := [d1, d2, d3, d4, d5, d6, d7] }
  | _ => none }
def bucketCapRow : OpenClaim := { program := "ytdmgmicnfoebmaa", sum := "fe9fa38c728301b0cb618434551943d4d6be2f077bf6861722db79487d667ba4", func := "weir/weirlaw16.BucketCap", spec := "bucketCap", unfollowed := true, recurses := true, apart := false }
def BucketCapSaid : Prop := bucketCapRow.holds Try.pinned (OpenSpec.ofChange bucketCapSpec)

/-- ITS FALSE NEIGHBOUR: 'it returns false'. Refute it at one input. -/
def bucketCapWrong : ChangeSpec := { name := "bucketCap", fn := fun _ => fun
  | [d1, d2, d3, d4, d5, d6, d7] => { results := [.lit (.bool false)], args := [d1, d2, d3, d4, d5, d6, d7] }
  | _ => none }
def BucketCapWrongFalsely : Prop := bucketCapRow.holds Try.pinned (OpenSpec.ofChange bucketCapWrong)

/-- 'weirlaw16.BucketStretch': WHATEVER THE INPUT: true; the input reads as it did. -/
def bucketStretchSpec : ChangeSpec := { name := "bucketStretch", fn := fun _ => fun
  | [d1, d2, d3, d4, d5] => { results := [.lit (.bool true)], args := [d1, d2, d3, d4, d5] }
  | _ => none }
def bucketStretchRow : OpenClaim := { program := "ytdmgmicnfoebmaa", sum := "fe9fa38c728301b0cb618434551943d4d6be2f077bf6861722db79487d667ba4", func := "weir/weirlaw16.BucketStretch", spec := "bucketStretch", unfollowed := true, recurses := true, apart := false }
def BucketStretchSaid : Prop := bucketStretchRow.holds Try.pinned (OpenSpec.ofChange bucketStretchSpec)

/-- ITS FALSE NEIGHBOUR: 'it returns false'. Refute it at one input. -/
def bucketStretchWrong : ChangeSpec := { name := "bucketStretch", fn := fun _ => fun
  | [d1, d2, d3, d4, d5] => { results := [.lit (.bool false)], args := [d1, d2, d3, d4, d5] }
  | _ => none }
def BucketStretchWrongFalsely : Prop := bucketStretchRow.holds Try.pinned (OpenSpec.ofChange bucketStretchWrong)

/-- 'weirlaw16.BucketReturns': WHATEVER THE INPUT: true; the input reads as it did. -/
def bucketReturnsSpec : ChangeSpec := { name := "bucketReturns", fn := fun _ => fun
  | [d1, d2, d3, d4] => { results := [.lit (.bool true)], args := [d1, d2, d3, d4] }
  | _ => none }
def bucketReturnsRow : OpenClaim := { program := "ytdmgmicnfoebmaa", sum := "fe9fa38c728301b0cb618434551943d4d6be2f077bf6861722db79487d667ba4", func := "weir/weirlaw16.BucketReturns", spec := "bucketReturns", unfollowed := true, recurses := true, apart := false }
def BucketReturnsSaid : Prop := bucketReturnsRow.holds Try.pinned (OpenSpec.ofChange bucketReturnsSpec)

/-- ITS FALSE NEIGHBOUR: 'it returns false'. Refute it at one input. -/
def bucketReturnsWrong : ChangeSpec := { name := "bucketReturns", fn := fun _ => fun
  | [d1, d2, d3, d4] => { results := [.lit (.bool false)], args := [d1, d2, d3, d4] }
  | _ => none }
def BucketReturnsWrongFalsely : Prop := bucketReturnsRow.holds Try.pinned (OpenSpec.ofChange bucketReturnsWrong)

/- THE SECOND FORM. 'bulk': how many values and letters a reading holds, each counted each time it is reached (what is shared counts as often as it is met; a slice's spare places count too). A statement '..UptoSaid' is the law's where the arguments, and the package variables that the reading takes, are together of bulk at most 1048576: NARROWER than '..Said'. Prove '..Said' where nothing that the law and all that it calls make is longer than what came in: it says more and counts as full. Else prove '..UptoSaid'. A law counts once. -/
mutual
def uptoBulk {H : Type} : DataW H → Nat
  | .lit (.string bytes) => bytes.length + 1
  | .lit _ => 1
  | .nil => 1
  | .ptr d => uptoBulk d + 1
  | .slice elems spare => uptoBulkAll elems + uptoBulkAll spare + 1
  | .agg parts => uptoBulkAll parts + 1
  | .iface _ d => uptoBulk d + 1
  | .map entries => uptoBulkEntries entries + 1
  | .held _ => 1
def uptoBulkAll {H : Type} : List (DataW H) → Nat
  | [] => 0
  | d :: r => uptoBulk d + uptoBulkAll r
def uptoBulkEntries {H : Type} : List (Lit × DataW H) → Nat
  | [] => 0
  | x :: r => uptoBulkEntry x + uptoBulkEntries r
def uptoBulkEntry {H : Type} : Lit × DataW H → Nat
  | (.string bytes, d) => bytes.length + uptoBulk d + 1
  | (_, d) => uptoBulk d + 1
 end
def uptoSmall : (H : Type) → List (DataW H) → Bool := fun _ ds => decide (uptoBulkAll ds ≤ 1048576)
def OpenSpec.upto (s : _root_.Go.ChangeSpec) : _root_.Go.OpenSpec := { _root_.Go.OpenSpec.ofChange s with cond := some uptoSmall }

/-- 'weirlaw03.ClockSteps', WHERE WHAT IT READS IS OF BULK AT MOST 1048576: true; the input reads as it did. -/
def clockStepsUptoRow : OpenClaim := { program := "ytdmgmicnfoebmaa", sum := "fe9fa38c728301b0cb618434551943d4d6be2f077bf6861722db79487d667ba4", func := "weir/weirlaw03.ClockSteps", spec := "clockSteps", unfollowed := true, recurses := true, apart := false, narrowed := true }
def ClockStepsUptoSaid : Prop := clockStepsUptoRow.holds Try.pinned (OpenSpec.upto clockStepsSpec)

/-- 'weirlaw03.ClockParts', WHERE WHAT IT READS IS OF BULK AT MOST 1048576: true; the input reads as it did. -/
def clockPartsUptoRow : OpenClaim := { program := "ytdmgmicnfoebmaa", sum := "fe9fa38c728301b0cb618434551943d4d6be2f077bf6861722db79487d667ba4", func := "weir/weirlaw03.ClockParts", spec := "clockParts", unfollowed := true, recurses := true, apart := false, narrowed := true }
def ClockPartsUptoSaid : Prop := clockPartsUptoRow.holds Try.pinned (OpenSpec.upto clockPartsSpec)

/-- 'weirlaw03.ClockBounds', WHERE WHAT IT READS IS OF BULK AT MOST 1048576: true; the input reads as it did. -/
def clockBoundsUptoRow : OpenClaim := { program := "ytdmgmicnfoebmaa", sum := "fe9fa38c728301b0cb618434551943d4d6be2f077bf6861722db79487d667ba4", func := "weir/weirlaw03.ClockBounds", spec := "clockBounds", unfollowed := true, recurses := true, apart := false, narrowed := true }
def ClockBoundsUptoSaid : Prop := clockBoundsUptoRow.holds Try.pinned (OpenSpec.upto clockBoundsSpec)

/-- 'weirlaw03.ClockOver', WHERE WHAT IT READS IS OF BULK AT MOST 1048576: true; the input reads as it did. -/
def clockOverUptoRow : OpenClaim := { program := "ytdmgmicnfoebmaa", sum := "fe9fa38c728301b0cb618434551943d4d6be2f077bf6861722db79487d667ba4", func := "weir/weirlaw03.ClockOver", spec := "clockOver", unfollowed := true, recurses := true, apart := false, narrowed := true }
def ClockOverUptoSaid : Prop := clockOverUptoRow.holds Try.pinned (OpenSpec.upto clockOverSpec)

/-- 'weirlaw20.StampTells', WHERE WHAT IT READS IS OF BULK AT MOST 1048576: true; the input reads as it did. -/
def stampTellsUptoRow : OpenClaim := { program := "ytdmgmicnfoebmaa", sum := "fe9fa38c728301b0cb618434551943d4d6be2f077bf6861722db79487d667ba4", func := "weir/weirlaw20.StampTells", spec := "stampTells", unfollowed := true, recurses := true, apart := false, narrowed := true }
def StampTellsUptoSaid : Prop := stampTellsUptoRow.holds Try.pinned (OpenSpec.upto stampTellsSpec)

/-- 'weirlaw20.StampCredits', WHERE WHAT IT READS IS OF BULK AT MOST 1048576: true; the input reads as it did. -/
def stampCreditsUptoRow : OpenClaim := { program := "ytdmgmicnfoebmaa", sum := "fe9fa38c728301b0cb618434551943d4d6be2f077bf6861722db79487d667ba4", func := "weir/weirlaw20.StampCredits", spec := "stampCredits", unfollowed := true, recurses := true, apart := false, narrowed := true }
def StampCreditsUptoSaid : Prop := stampCreditsUptoRow.holds Try.pinned (OpenSpec.upto stampCreditsSpec)

/-- 'weirlaw20.StampNever', WHERE WHAT IT READS IS OF BULK AT MOST 1048576: true; the input reads as it did. -/
def stampNeverUptoRow : OpenClaim := { program := "ytdmgmicnfoebmaa", sum := "fe9fa38c728301b0cb618434551943d4d6be2f077bf6861722db79487d667ba4", func := "weir/weirlaw20.StampNever", spec := "stampNever", unfollowed := true, recurses := true, apart := false, narrowed := true }
def StampNeverUptoSaid : Prop := stampNeverUptoRow.holds Try.pinned (OpenSpec.upto stampNeverSpec)

/-- 'weirlaw16.BucketTells', WHERE WHAT IT READS IS OF BULK AT MOST 1048576: true; the input reads as it did. -/
def bucketTellsUptoRow : OpenClaim := { program := "ytdmgmicnfoebmaa", sum := "fe9fa38c728301b0cb618434551943d4d6be2f077bf6861722db79487d667ba4", func := "weir/weirlaw16.BucketTells", spec := "bucketTells", unfollowed := true, recurses := true, apart := false, narrowed := true }
def BucketTellsUptoSaid : Prop := bucketTellsUptoRow.holds Try.pinned (OpenSpec.upto bucketTellsSpec)

/-- 'weirlaw16.BucketMoves', WHERE WHAT IT READS IS OF BULK AT MOST 1048576: true; the input reads as it did. -/
def bucketMovesUptoRow : OpenClaim := { program := "ytdmgmicnfoebmaa", sum := "fe9fa38c728301b0cb618434551943d4d6be2f077bf6861722db79487d667ba4", func := "weir/weirlaw16.BucketMoves", spec := "bucketMoves", unfollowed := true, recurses := true, apart := false, narrowed := true }
def BucketMovesUptoSaid : Prop := bucketMovesUptoRow.holds Try.pinned (OpenSpec.upto bucketMovesSpec)

/-- 'weirlaw16.BucketCap', WHERE WHAT IT READS IS OF BULK AT MOST 1048576: true; the input reads as it did. -/
def bucketCapUptoRow : OpenClaim := { program := "ytdmgmicnfoebmaa", sum := "fe9fa38c728301b0cb618434551943d4d6be2f077bf6861722db79487d667ba4", func := "weir/weirlaw16.BucketCap", spec := "bucketCap", unfollowed := true, recurses := true, apart := false, narrowed := true }
def BucketCapUptoSaid : Prop := bucketCapUptoRow.holds Try.pinned (OpenSpec.upto bucketCapSpec)

/-- 'weirlaw16.BucketStretch', WHERE WHAT IT READS IS OF BULK AT MOST 1048576: true; the input reads as it did. -/
def bucketStretchUptoRow : OpenClaim := { program := "ytdmgmicnfoebmaa", sum := "fe9fa38c728301b0cb618434551943d4d6be2f077bf6861722db79487d667ba4", func := "weir/weirlaw16.BucketStretch", spec := "bucketStretch", unfollowed := true, recurses := true, apart := false, narrowed := true }
def BucketStretchUptoSaid : Prop := bucketStretchUptoRow.holds Try.pinned (OpenSpec.upto bucketStretchSpec)

/-- 'weirlaw16.BucketReturns', WHERE WHAT IT READS IS OF BULK AT MOST 1048576: true; the input reads as it did. -/
def bucketReturnsUptoRow : OpenClaim := { program := "ytdmgmicnfoebmaa", sum := "fe9fa38c728301b0cb618434551943d4d6be2f077bf6861722db79487d667ba4", func := "weir/weirlaw16.BucketReturns", spec := "bucketReturns", unfollowed := true, recurses := true, apart := false, narrowed := true }
def BucketReturnsUptoSaid : Prop := bucketReturnsUptoRow.holds Try.pinned (OpenSpec.upto bucketReturnsSpec)

end Rows
end Go.Proofs.Ytdmgmicnfoebmaa
