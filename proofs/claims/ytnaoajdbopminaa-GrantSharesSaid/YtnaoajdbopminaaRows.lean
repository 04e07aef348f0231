/-
  No cell of these rows narrows 'for every input' (looked for: loops, veiled, ifaces, maps, wideKeys, modest, calm, conditions, laid).
  DERIVED. THE GIVEN ROWS OF THIS SEAT. 12 by the template 'for every input the law returns true; each argument reads behind the call as it read before'; 0 by the template 'total and deterministic' (their statements: YtnaoajdbopminaaTotals.lean).
  GIVEN WITH THE SEED: the statements are not yours to turn. If you find one false, say at which input.
  Laid BY PROGRAM, IN A SANDBOX (cutbox-rows.mjs): the forced cells as the released guide's own fill.sh prints them over the translation dd533005a38ec487… (all of the seat's roots in one cut). By AI agents, Wed Nov 11 2026. No macro, syntax, notation, axiom, sorry.
-/
import Derived.Test.YtnaoajdbopminaaChecked
import GoSem.Claim
import GoSem.ClaimJoined
import GoSem.ClaimMapViews
import Derived.JoinedTies
import Derived.KernelRfl
namespace Go.Proofs.Ytnaoajdbopminaa
/- THE CELL 'sum', in the pinned program and in every row, IS THE sha256 OF THE DUMP (.gsa) THAT YtnaoajdbopminaaProg.lean LOADS. Nothing in Lean hashes anything: it is a label: what it is worth is what the hold of that sum in a sandbox is worth. -/
noncomputable def Try.pinned : Pinned := { name := "ytnaoajdbopminaa", sum := "dd533005a38ec4877e2b8689a0bc02d55671052e5b23b11d36e4e2c4fdc51084", checked := Try.checked }
namespace Rows
def none {H : Type} : Left H := { results := [], args := [] }

/-- 'weirlaw03.ClockSteps': WHATEVER THE INPUT: true; the input reads as it did. -/
def clockStepsSpec : ChangeSpec := { name := "clockSteps", fn := fun _ => fun
  | [d1, d2] => { results := [.lit (.bool true)], args := [d1, d2] }
  | _ => none }
def clockStepsRow : OpenClaim := { program := "ytnaoajdbopminaa", sum := "dd533005a38ec4877e2b8689a0bc02d55671052e5b23b11d36e4e2c4fdc51084", func := "weir/weirlaw03.ClockSteps", spec := "clockSteps", unfollowed := true, recurses := true, plainKeys := false, apart := false }
def ClockStepsSaid : Prop := clockStepsRow.holds Try.pinned (OpenSpec.ofChange clockStepsSpec)

/-- ITS FALSE NEIGHBOUR: 'it returns false'. Refute it at one input. -/
def clockStepsWrong : ChangeSpec := { name := "clockSteps", fn := fun _ => fun
  | [d1, d2] => { results := [.lit (.bool false)], args := [d1, d2] }
  | _ => none }
def ClockStepsWrongFalsely : Prop := clockStepsRow.holds Try.pinned (OpenSpec.ofChange clockStepsWrong)

/-- 'weirlaw20.StampNever': WHATEVER THE INPUT: true; the input reads as it did. -/
def stampNeverSpec : ChangeSpec := { name := "stampNever", fn := fun _ => fun
  | [d1, d2, d3] => { results := [.lit (.bool true)], args := [d1, d2, d3] }
  | _ => none }
def stampNeverRow : OpenClaim := { program := "ytnaoajdbopminaa", sum := "dd533005a38ec4877e2b8689a0bc02d55671052e5b23b11d36e4e2c4fdc51084", func := "weir/weirlaw20.StampNever", spec := "stampNever", unfollowed := true, recurses := true, plainKeys := false, apart := false }
def StampNeverSaid : Prop := stampNeverRow.holds Try.pinned (OpenSpec.ofChange stampNeverSpec)

/-- ITS FALSE NEIGHBOUR: 'it returns false'. Refute it at one input. -/
def stampNeverWrong : ChangeSpec := { name := "stampNever", fn := fun _ => fun
  | [d1, d2, d3] => { results := [.lit (.bool false)], args := [d1, d2, d3] }
  | _ => none }
def StampNeverWrongFalsely : Prop := stampNeverRow.holds Try.pinned (OpenSpec.ofChange stampNeverWrong)

/-- 'weirlaw12.ConfTells': WHATEVER THE INPUT: true; the input reads as it did. -/
def confTellsSpec : ChangeSpec := { name := "confTells", fn := fun _ => fun
  | [d1, d2, d3, d4] => { results := [.lit (.bool true)], args := [d1, d2, d3, d4] }
  | _ => none }
def confTellsRow : OpenClaim := { program := "ytnaoajdbopminaa", sum := "dd533005a38ec4877e2b8689a0bc02d55671052e5b23b11d36e4e2c4fdc51084", func := "weir/weirlaw12.ConfTells", spec := "confTells", unfollowed := true, recurses := true, plainKeys := false, apart := false }
def ConfTellsSaid : Prop := confTellsRow.holds Try.pinned (OpenSpec.ofChange confTellsSpec)

/-- ITS FALSE NEIGHBOUR: 'it returns false'. Refute it at one input. -/
def confTellsWrong : ChangeSpec := { name := "confTells", fn := fun _ => fun
  | [d1, d2, d3, d4] => { results := [.lit (.bool false)], args := [d1, d2, d3, d4] }
  | _ => none }
def ConfTellsWrongFalsely : Prop := confTellsRow.holds Try.pinned (OpenSpec.ofChange confTellsWrong)

/-- 'weirlaw12.ConfChanges': WHATEVER THE INPUT: true; the input reads as it did. -/
def confChangesSpec : ChangeSpec := { name := "confChanges", fn := fun _ => fun
  | [d1, d2] => { results := [.lit (.bool true)], args := [d1, d2] }
  | _ => none }
def confChangesRow : OpenClaim := { program := "ytnaoajdbopminaa", sum := "dd533005a38ec4877e2b8689a0bc02d55671052e5b23b11d36e4e2c4fdc51084", func := "weir/weirlaw12.ConfChanges", spec := "confChanges", unfollowed := true, recurses := true, plainKeys := false, apart := false }
def ConfChangesSaid : Prop := confChangesRow.holds Try.pinned (OpenSpec.ofChange confChangesSpec)

/-- ITS FALSE NEIGHBOUR: 'it returns false'. Refute it at one input. -/
def confChangesWrong : ChangeSpec := { name := "confChanges", fn := fun _ => fun
  | [d1, d2] => { results := [.lit (.bool false)], args := [d1, d2] }
  | _ => none }
def ConfChangesWrongFalsely : Prop := confChangesRow.holds Try.pinned (OpenSpec.ofChange confChangesWrong)

/-- 'weirlaw12.ConfLatest': WHATEVER THE INPUT: true; the input reads as it did. -/
def confLatestSpec : ChangeSpec := { name := "confLatest", fn := fun _ => fun
  | [d1, d2, d3, d4] => { results := [.lit (.bool true)], args := [d1, d2, d3, d4] }
  | _ => none }
def confLatestRow : OpenClaim := { program := "ytnaoajdbopminaa", sum := "dd533005a38ec4877e2b8689a0bc02d55671052e5b23b11d36e4e2c4fdc51084", func := "weir/weirlaw12.ConfLatest", spec := "confLatest", unfollowed := true, recurses := true, plainKeys := false, apart := false }
def ConfLatestSaid : Prop := confLatestRow.holds Try.pinned (OpenSpec.ofChange confLatestSpec)

/-- ITS FALSE NEIGHBOUR: 'it returns false'. Refute it at one input. -/
def confLatestWrong : ChangeSpec := { name := "confLatest", fn := fun _ => fun
  | [d1, d2, d3, d4] => { results := [.lit (.bool false)], args := [d1, d2, d3, d4] }
  | _ => none }
def ConfLatestWrongFalsely : Prop := confLatestRow.holds Try.pinned (OpenSpec.ofChange confLatestWrong)

/-- 'weirlaw12.ConfOne': WHATEVER THE INPUT: true; the input reads as it did. -/
def confOneSpec : ChangeSpec := { name := "confOne", fn := fun _ => fun
  | [d1, d2, d3, d4] => { results := [.lit (.bool true)], args := [d1, d2, d3, d4] }
  | _ => none }
def confOneRow : OpenClaim := { program := "ytnaoajdbopminaa", sum := "dd533005a38ec4877e2b8689a0bc02d55671052e5b23b11d36e4e2c4fdc51084", func := "weir/weirlaw12.ConfOne", spec := "confOne", unfollowed := true, recurses := true, plainKeys := false, apart := false }
def ConfOneSaid : Prop := confOneRow.holds Try.pinned (OpenSpec.ofChange confOneSpec)

/-- ITS FALSE NEIGHBOUR: 'it returns false'. Refute it at one input. -/
def confOneWrong : ChangeSpec := { name := "confOne", fn := fun _ => fun
  | [d1, d2, d3, d4] => { results := [.lit (.bool false)], args := [d1, d2, d3, d4] }
  | _ => none }
def ConfOneWrongFalsely : Prop := confOneRow.holds Try.pinned (OpenSpec.ofChange confOneWrong)

/-- 'weirlaw12.ConfSizes': WHATEVER THE INPUT: true; the input reads as it did. -/
def confSizesSpec : ChangeSpec := { name := "confSizes", fn := fun _ => fun
  | [d1, d2] => { results := [.lit (.bool true)], args := [d1, d2] }
  | _ => none }
def confSizesRow : OpenClaim := { program := "ytnaoajdbopminaa", sum := "dd533005a38ec4877e2b8689a0bc02d55671052e5b23b11d36e4e2c4fdc51084", func := "weir/weirlaw12.ConfSizes", spec := "confSizes", unfollowed := true, recurses := true, plainKeys := false, apart := false }
def ConfSizesSaid : Prop := confSizesRow.holds Try.pinned (OpenSpec.ofChange confSizesSpec)

/-- ITS FALSE NEIGHBOUR: 'it returns false'. Refute it at one input. -/
def confSizesWrong : ChangeSpec := { name := "confSizes", fn := fun _ => fun
  | [d1, d2] => { results := [.lit (.bool false)], args := [d1, d2] }
  | _ => none }
def ConfSizesWrongFalsely : Prop := confSizesRow.holds Try.pinned (OpenSpec.ofChange confSizesWrong)

/-- 'weirlaw15.SessionsTell': WHATEVER THE INPUT: true; the input reads as it did. -/
def sessionsTellSpec : ChangeSpec := { name := "sessionsTell", fn := fun _ => fun
  | [d1, d2, d3] => { results := [.lit (.bool true)], args := [d1, d2, d3] }
  | _ => none }
def sessionsTellRow : OpenClaim := { program := "ytnaoajdbopminaa", sum := "dd533005a38ec4877e2b8689a0bc02d55671052e5b23b11d36e4e2c4fdc51084", func := "weir/weirlaw15.SessionsTell", spec := "sessionsTell", unfollowed := true, recurses := true, plainKeys := false, apart := false }
def SessionsTellSaid : Prop := sessionsTellRow.holds Try.pinned (OpenSpec.ofChange sessionsTellSpec)

/-- ITS FALSE NEIGHBOUR: 'it returns false'. Refute it at one input. -/
def sessionsTellWrong : ChangeSpec := { name := "sessionsTell", fn := fun _ => fun
  | [d1, d2, d3] => { results := [.lit (.bool false)], args := [d1, d2, d3] }
  | _ => none }
def SessionsTellWrongFalsely : Prop := sessionsTellRow.holds Try.pinned (OpenSpec.ofChange sessionsTellWrong)

/-- 'weirlaw15.SessionsKeep': WHATEVER THE INPUT: true; the input reads as it did. -/
def sessionsKeepSpec : ChangeSpec := { name := "sessionsKeep", fn := fun _ => fun
  | [d1, d2, d3, d4] => { results := [.lit (.bool true)], args := [d1, d2, d3, d4] }
  | _ => none }
def sessionsKeepRow : OpenClaim := { program := "ytnaoajdbopminaa", sum := "dd533005a38ec4877e2b8689a0bc02d55671052e5b23b11d36e4e2c4fdc51084", func := "weir/weirlaw15.SessionsKeep", spec := "sessionsKeep", unfollowed := true, recurses := true, plainKeys := false, apart := false }
def SessionsKeepSaid : Prop := sessionsKeepRow.holds Try.pinned (OpenSpec.ofChange sessionsKeepSpec)

/-- ITS FALSE NEIGHBOUR: 'it returns false'. Refute it at one input. -/
def sessionsKeepWrong : ChangeSpec := { name := "sessionsKeep", fn := fun _ => fun
  | [d1, d2, d3, d4] => { results := [.lit (.bool false)], args := [d1, d2, d3, d4] }
  | _ => none }
def SessionsKeepWrongFalsely : Prop := sessionsKeepRow.holds Try.pinned (OpenSpec.ofChange sessionsKeepWrong)

/-- 'weirlaw15.SessionsOnce': WHATEVER THE INPUT: true; the input reads as it did. -/
def sessionsOnceSpec : ChangeSpec := { name := "sessionsOnce", fn := fun _ => fun
  | [d1, d2] => { results := [.lit (.bool true)], args := [d1, d2] }
  | _ => none }
def sessionsOnceRow : OpenClaim := { program := "ytnaoajdbopminaa", sum := "dd533005a38ec4877e2b8689a0bc02d55671052e5b23b11d36e4e2c4fdc51084", func := "weir/weirlaw15.SessionsOnce", spec := "sessionsOnce", unfollowed := true, recurses := true, plainKeys := false, apart := false }
def SessionsOnceSaid : Prop := sessionsOnceRow.holds Try.pinned (OpenSpec.ofChange sessionsOnceSpec)

/-- ITS FALSE NEIGHBOUR: 'it returns false'. Refute it at one input. -/
def sessionsOnceWrong : ChangeSpec := { name := "sessionsOnce", fn := fun _ => fun
  | [d1, d2] => { results := [.lit (.bool false)], args := [d1, d2] }
  | _ => none }
def SessionsOnceWrongFalsely : Prop := sessionsOnceRow.holds Try.pinned (OpenSpec.ofChange sessionsOnceWrong)

/-- 'weirlaw15.SessionsApart': WHATEVER THE INPUT: true; the input reads as it did. -/
def sessionsApartSpec : ChangeSpec := { name := "sessionsApart", fn := fun _ => fun
  | [d1, d2, d3, d4, d5, d6] => { results := [.lit (.bool true)], args := [d1, d2, d3, d4, d5, d6] }
  | _ => none }
def sessionsApartRow : OpenClaim := { program := "ytnaoajdbopminaa", sum := "dd533005a38ec4877e2b8689a0bc02d55671052e5b23b11d36e4e2c4fdc51084", func := "weir/weirlaw15.SessionsApart", spec := "sessionsApart", unfollowed := true, recurses := true, plainKeys := false, apart := false }
def SessionsApartSaid : Prop := sessionsApartRow.holds Try.pinned (OpenSpec.ofChange sessionsApartSpec)

/-- ITS FALSE NEIGHBOUR: 'it returns false'. Refute it at one input. -/
def sessionsApartWrong : ChangeSpec := { name := "sessionsApart", fn := fun _ => fun
  | [d1, d2, d3, d4, d5, d6] => { results := [.lit (.bool false)], args := [d1, d2, d3, d4, d5, d6] }
  | _ => none }
def SessionsApartWrongFalsely : Prop := sessionsApartRow.holds Try.pinned (OpenSpec.ofChange sessionsApartWrong)

/-- 'weirlaw21.GrantShares': WHATEVER THE INPUT: true; the input reads as it did. -/
def grantSharesSpec : ChangeSpec := { name := "grantShares", fn := fun _ => fun
  | [d1, d2, d3, d4, d5] => { results := [.lit (.bool true)], args := [d1, d2, d3, d4, d5] }
  | _ => none }
def grantSharesRow : OpenClaim := { program := "ytnaoajdbopminaa", sum := "dd533005a38ec4877e2b8689a0bc02d55671052e5b23b11d36e4e2c4fdc51084", func := "weir/weirlaw21.GrantShares", spec := "grantShares", unfollowed := true, recurses := true, plainKeys := false, apart := false }
def GrantSharesSaid : Prop := grantSharesRow.holds Try.pinned (OpenSpec.ofChange grantSharesSpec)

/-- ITS FALSE NEIGHBOUR: 'it returns false'. Refute it at one input. -/
def grantSharesWrong : ChangeSpec := { name := "grantShares", fn := fun _ => fun
  | [d1, d2, d3, d4, d5] => { results := [.lit (.bool false)], args := [d1, d2, d3, d4, d5] }
  | _ => none }
def GrantSharesWrongFalsely : Prop := grantSharesRow.holds Try.pinned (OpenSpec.ofChange grantSharesWrong)

/- THE SECOND FORM. 'bulk': how many values and letters a reading holds, each counted each time it is reached (what is shared counts as often as it is met; a slice's spare places count too). A statement '..UptoSaid' is the law's where the arguments, and the package variables that the reading takes, are together of bulk at most 1048576: NARROWER than '..Said'. Prove '..Said' where nothing that the law and all that it calls make is longer than what came in: it says more and counts as full. Else prove '..UptoSaid'. A law counts once. -/
mutual
def uptoBulk {H : Type} : DataW H → Nat
  | .lit (.string bytes) => bytes.length + 1
  | .lit _ => 1
  | .nil => 1
  | .ptr d => uptoBulk d + 1
  | .slice elems spare => uptoBulkAll elems + uptoBulkAll spare + 1
  | .agg parts => uptoBulkAll parts + 1
  | .iface _ d => uptoBulk d + 1
  | .map entries => uptoBulkEntries entries + 1
  | .held _ => 1
def uptoBulkAll {H : Type} : List (DataW H) → Nat
  | [] => 0
  | d :: r => uptoBulk d + uptoBulkAll r
def uptoBulkEntries {H : Type} : List (Lit × DataW H) → Nat
  | [] => 0
  | x :: r => uptoBulkEntry x + uptoBulkEntries r
def uptoBulkEntry {H : Type} : Lit × DataW H → Nat
  | (.string bytes, d) => bytes.length + uptoBulk d + 1
  | (_, d) => uptoBulk d + 1
 end
def uptoSmall : (H : Type) → List (DataW H) → Bool := fun _ ds => decide (uptoBulkAll ds ≤ 1048576)
def OpenSpec.upto (s : _root_.Go.ChangeSpec) : _root_.Go.OpenSpec := { _root_.Go.OpenSpec.ofChange s with cond := some uptoSmall }

/-- 'weirlaw03.ClockSteps', WHERE WHAT IT READS IS OF BULK AT MOST 1048576: true; the input reads as it did. -/
def clockStepsUptoRow : OpenClaim := { program := "ytnaoajdbopminaa", sum := "dd533005a38ec4877e2b8689a0bc02d55671052e5b23b11d36e4e2c4fdc51084", func := "weir/weirlaw03.ClockSteps", spec := "clockSteps", unfollowed := true, recurses := true, plainKeys := false, apart := false, narrowed := true }
def ClockStepsUptoSaid : Prop := clockStepsUptoRow.holds Try.pinned (OpenSpec.upto clockStepsSpec)

/-- 'weirlaw20.StampNever', WHERE WHAT IT READS IS OF BULK AT MOST 1048576: true; the input reads as it did. -/
def stampNeverUptoRow : OpenClaim := { program := "ytnaoajdbopminaa", sum := "dd533005a38ec4877e2b8689a0bc02d55671052e5b23b11d36e4e2c4fdc51084", func := "weir/weirlaw20.StampNever", spec := "stampNever", unfollowed := true, recurses := true, plainKeys := false, apart := false, narrowed := true }
def StampNeverUptoSaid : Prop := stampNeverUptoRow.holds Try.pinned (OpenSpec.upto stampNeverSpec)

/-- 'weirlaw12.ConfTells', WHERE WHAT IT READS IS OF BULK AT MOST 1048576: true; the input reads as it did. -/
def confTellsUptoRow : OpenClaim := { program := "ytnaoajdbopminaa", sum := "dd533005a38ec4877e2b8689a0bc02d55671052e5b23b11d36e4e2c4fdc51084", func := "weir/weirlaw12.ConfTells", spec := "confTells", unfollowed := true, recurses := true, plainKeys := false, apart := false, narrowed := true }
def ConfTellsUptoSaid : Prop := confTellsUptoRow.holds Try.pinned (OpenSpec.upto confTellsSpec)

/-- 'weirlaw12.ConfChanges', WHERE WHAT IT READS IS OF BULK AT MOST 1048576: true; the input reads as it did. -/
def confChangesUptoRow : OpenClaim := { program := "ytnaoajdbopminaa", sum := "dd533005a38ec4877e2b8689a0bc02d55671052e5b23b11d36e4e2c4fdc51084", func := "weir/weirlaw12.ConfChanges", spec := "confChanges", unfollowed := true, recurses := true, plainKeys := false, apart := false, narrowed := true }
def ConfChangesUptoSaid : Prop := confChangesUptoRow.holds Try.pinned (OpenSpec.upto confChangesSpec)

/-- 'weirlaw12.ConfLatest', WHERE WHAT IT READS IS OF BULK AT MOST 1048576: true; the input reads as it did. -/
def confLatestUptoRow : OpenClaim := { program := "ytnaoajdbopminaa", sum := "dd533005a38ec4877e2b8689a0bc02d55671052e5b23b11d36e4e2c4fdc51084", func := "weir/weirlaw12.ConfLatest", spec := "confLatest", unfollowed := true, recurses := true, plainKeys := false, apart := false, narrowed := true }
def ConfLatestUptoSaid : Prop := confLatestUptoRow.holds Try.pinned (OpenSpec.upto confLatestSpec)

/-- 'weirlaw12.ConfOne', WHERE WHAT IT READS IS OF BULK AT MOST 1048576: true; the input reads as it did. -/
def confOneUptoRow : OpenClaim := { program := "ytnaoajdbopminaa", sum := "dd533005a38ec4877e2b8689a0bc02d55671052e5b23b11d36e4e2c4fdc51084", func := "weir/weirlaw12.ConfOne", spec := "confOne", unfollowed := true, recurses := true, plainKeys := false, apart := false, narrowed := true }
def ConfOneUptoSaid : Prop := confOneUptoRow.holds Try.pinned (OpenSpec.upto confOneSpec)

/-- 'weirlaw12.ConfSizes', WHERE WHAT IT READS IS OF BULK AT MOST 1048576: true; the input reads as it did. -/
def confSizesUptoRow : OpenClaim := { program := "ytnaoajdbopminaa", sum := "dd533005a38ec4877e2b8689a0bc02d55671052e5b23b11d36e4e2c4fdc51084", func := "weir/weirlaw12.ConfSizes", spec := "confSizes", unfollowed := true, recurses := true, plainKeys := false, apart := false, narrowed := true }
def ConfSizesUptoSaid : Prop := confSizesUptoRow.holds Try.pinned (OpenSpec.upto confSizesSpec)

/-- 'weirlaw15.SessionsTell', WHERE WHAT IT READS IS OF BULK AT MOST 1048576: true; the input reads as it did. -/
def sessionsTellUptoRow : OpenClaim := { program := "ytnaoajdbopminaa", sum := "dd533005a38ec4877e2b8689a0bc02d55671052e5b23b11d36e4e2c4fdc51084", func := "weir/weirlaw15.SessionsTell", spec := "sessionsTell", unfollowed := true, recurses := true, plainKeys := false, apart := false, narrowed := true }
def SessionsTellUptoSaid : Prop := sessionsTellUptoRow.holds Try.pinned (OpenSpec.upto sessionsTellSpec)

/-- 'weirlaw15.SessionsKeep', WHERE WHAT IT READS IS OF BULK AT MOST 1048576: true; the input reads as it did. -/
def sessionsKeepUptoRow : OpenClaim := { program := "ytnaoajdbopminaa", sum := "dd533005a38ec4877e2b8689a0bc02d55671052e5b23b11d36e4e2c4fdc51084", func := "weir/weirlaw15.SessionsKeep", spec := "sessionsKeep", unfollowed := true, recurses := true, plainKeys := false, apart := false, narrowed := true }
def SessionsKeepUptoSaid : Prop := sessionsKeepUptoRow.holds Try.pinned (OpenSpec.upto sessionsKeepSpec)

/-- 'weirlaw15.SessionsOnce', WHERE WHAT IT READS IS OF BULK AT MOST 1048576: true; the input reads as it did. -/
def sessionsOnceUptoRow : OpenClaim := { program := "ytnaoajdbopminaa", sum := "dd533005a38ec4877e2b8689a0bc02d55671052e5b23b11d36e4e2c4fdc51084", func := "weir/weirlaw15.SessionsOnce", spec := "sessionsOnce", unfollowed := true, recurses := true, plainKeys := false, apart := false, narrowed := true }
def SessionsOnceUptoSaid : Prop := sessionsOnceUptoRow.holds Try.pinned (OpenSpec.upto sessionsOnceSpec)

/-- 'weirlaw15.SessionsApart', WHERE WHAT IT READS IS OF BULK AT MOST 1048576: true; the input reads as it did. -/
def sessionsApartUptoRow : OpenClaim := { program := "ytnaoajdbopminaa", sum := "dd533005a38ec4877e2b8689a0bc02d55671052e5b23b11d36e4e2c4fdc51084", func := "weir/weirlaw15.SessionsApart", spec := "sessionsApart", unfollowed := true, recurses := true, plainKeys := false, apart := false, narrowed := true }
def SessionsApartUptoSaid : Prop := sessionsApartUptoRow.holds Try.pinned (OpenSpec.upto sessionsApartSpec)

/-- 'weirlaw21.GrantShares', WHERE WHAT IT READS IS OF BULK AT MOST 1048576: true; the input reads as it did. -/
def grantSharesUptoRow : OpenClaim := { program := "ytnaoajdbopminaa", sum := "dd533005a38ec4877e2b8689a0bc02d55671052e5b23b11d36e4e2c4fdc51084", func := "weir/weirlaw21.GrantShares", spec := "grantShares", unfollowed := true, recurses := true, plainKeys := false, apart := false, narrowed := true }
def GrantSharesUptoSaid : Prop := grantSharesUptoRow.holds Try.pinned (OpenSpec.upto grantSharesSpec)

end Rows
end Go.Proofs.Ytnaoajdbopminaa
