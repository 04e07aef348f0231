/-
  No cell of these rows narrows 'for every input' (looked for: loops, veiled, ifaces, maps, wideKeys, modest, calm, conditions, laid).
  DERIVED. THE GIVEN ROWS OF THIS SEAT. 6 by the template 'for every input the law returns true; each argument reads behind the call as it read before'; 0 by the template 'total and deterministic' (their statements: YthmjlomlceljkaaTotals.lean).
  GIVEN WITH THE SEED: the statements are not yours to turn. If you find one false, say at which input.
  Laid BY PROGRAM, IN A SANDBOX (cutbox-rows.mjs): the forced cells as the released guide's own fill.sh prints them over the translation a927a45e678a831e… (all of the seat's roots in one cut). By AI agents, Wed Nov 11 2026. No macro, syntax, notation, axiom, sorry.
-/
import Derived.Test.YthmjlomlceljkaaChecked
import GoSem.Claim
import GoSem.ClaimJoined
import GoSem.ClaimMapViews
import Derived.JoinedTies
import Derived.KernelRfl
namespace Go.Proofs.Ythmjlomlceljkaa
/- THE CELL 'sum', in the pinned program and in every row, IS THE sha256 OF THE DUMP (.gsa) THAT YthmjlomlceljkaaProg.lean LOADS. Nothing in Lean hashes anything: it is a label: what it is worth is what the hold of that sum in a sandbox is worth. -/
noncomputable def Try.pinned : Pinned := { name := "ythmjlomlceljkaa", sum := "a927a45e678a831e0d0f18627345783476b156c3dbc85960743acafc71694f46", checked := Try.checked }
namespace Rows
def none {H : Type} : Left H := { results := [], args := [] }

/-- 'weirlaw21.GrantPlays': WHATEVER THE INPUT: true; the input reads as it did. -/
def grantPlaysSpec : ChangeSpec := { name := "grantPlays", fn := fun _ => fun
  | [d1, d2, d3, d4] => { results := [.lit (.bool true)], args := [d1, d2, d3, d4] }
  | _ => none }
def grantPlaysRow : OpenClaim := { program := "ythmjlomlceljkaa", sum := "a927a45e678a831e0d0f18627345783476b156c3dbc85960743acafc71694f46", func := "weir/weirlaw21.GrantPlays", spec := "grantPlays", inPlace := ["maps.clone"], unfollowed := true, recurses := true, plainKeys := false, apart := false }
def GrantPlaysSaid : Prop := grantPlaysRow.holds Try.pinned (OpenSpec.ofChange grantPlaysSpec)

/-- ITS FALSE NEIGHBOUR: 'it returns false'. Refute it at one input. -/
def grantPlaysWrong : ChangeSpec := { name := "grantPlays", fn := fun _ => fun
  | [d1, d2, d3, d4] => { results := [.lit (.bool false)], args := [d1, d2, d3, d4] }
  | _ => none }
def GrantPlaysWrongFalsely : Prop := grantPlaysRow.holds Try.pinned (OpenSpec.ofChange grantPlaysWrong)

/-- 'weirlaw29.HistoryDoes': WHATEVER THE INPUT: true; the input reads as it did. -/
def historyDoesSpec : ChangeSpec := { name := "historyDoes", fn := fun _ => fun
  | [d1, d2, d3] => { results := [.lit (.bool true)], args := [d1, d2, d3] }
  | _ => none }
def historyDoesRow : OpenClaim := { program := "ythmjlomlceljkaa", sum := "a927a45e678a831e0d0f18627345783476b156c3dbc85960743acafc71694f46", func := "weir/weirlaw29.HistoryDoes", spec := "historyDoes", inPlace := ["slices.overlaps[weir/api.Force]"], unfollowed := true, recurses := true, plainKeys := false, apart := false }
def HistoryDoesSaid : Prop := historyDoesRow.holds Try.pinned (OpenSpec.ofChange historyDoesSpec)

/-- ITS FALSE NEIGHBOUR: 'it returns false'. Refute it at one input. -/
def historyDoesWrong : ChangeSpec := { name := "historyDoes", fn := fun _ => fun
  | [d1, d2, d3] => { results := [.lit (.bool false)], args := [d1, d2, d3] }
  | _ => none }
def HistoryDoesWrongFalsely : Prop := historyDoesRow.holds Try.pinned (OpenSpec.ofChange historyDoesWrong)

/-- 'weirlaw29.HistoryTries': WHATEVER THE INPUT: true; the input reads as it did. -/
def historyTriesSpec : ChangeSpec := { name := "historyTries", fn := fun _ => fun
  | [d1, d2] => { results := [.lit (.bool true)], args := [d1, d2] }
  | _ => none }
def historyTriesRow : OpenClaim := { program := "ythmjlomlceljkaa", sum := "a927a45e678a831e0d0f18627345783476b156c3dbc85960743acafc71694f46", func := "weir/weirlaw29.HistoryTries", spec := "historyTries", inPlace := ["slices.overlaps[weir/api.Force]"], unfollowed := true, recurses := true, plainKeys := false, apart := false }
def HistoryTriesSaid : Prop := historyTriesRow.holds Try.pinned (OpenSpec.ofChange historyTriesSpec)

/-- ITS FALSE NEIGHBOUR: 'it returns false'. Refute it at one input. -/
def historyTriesWrong : ChangeSpec := { name := "historyTries", fn := fun _ => fun
  | [d1, d2] => { results := [.lit (.bool false)], args := [d1, d2] }
  | _ => none }
def HistoryTriesWrongFalsely : Prop := historyTriesRow.holds Try.pinned (OpenSpec.ofChange historyTriesWrong)

/-- 'weirlaw29.HistoryFits': WHATEVER THE INPUT: true; the input reads as it did. -/
def historyFitsSpec : ChangeSpec := { name := "historyFits", fn := fun _ => fun
  | [d] => { results := [.lit (.bool true)], args := [d] }
  | _ => none }
def historyFitsRow : OpenClaim := { program := "ythmjlomlceljkaa", sum := "a927a45e678a831e0d0f18627345783476b156c3dbc85960743acafc71694f46", func := "weir/weirlaw29.HistoryFits", spec := "historyFits", inPlace := ["slices.overlaps[weir/api.Force]"], unfollowed := true, recurses := true, plainKeys := false, apart := false }
def HistoryFitsSaid : Prop := historyFitsRow.holds Try.pinned (OpenSpec.ofChange historyFitsSpec)

/-- ITS FALSE NEIGHBOUR: 'it returns false'. Refute it at one input. -/
def historyFitsWrong : ChangeSpec := { name := "historyFits", fn := fun _ => fun
  | [d] => { results := [.lit (.bool false)], args := [d] }
  | _ => none }
def HistoryFitsWrongFalsely : Prop := historyFitsRow.holds Try.pinned (OpenSpec.ofChange historyFitsWrong)

/-- 'weirlaw29.HistoryFound': WHATEVER THE INPUT: true; the input reads as it did. -/
def historyFoundSpec : ChangeSpec := { name := "historyFound", fn := fun _ => fun
  | [d1, d2] => { results := [.lit (.bool true)], args := [d1, d2] }
  | _ => none }
def historyFoundRow : OpenClaim := { program := "ythmjlomlceljkaa", sum := "a927a45e678a831e0d0f18627345783476b156c3dbc85960743acafc71694f46", func := "weir/weirlaw29.HistoryFound", spec := "historyFound", inPlace := ["slices.overlaps[weir/api.Force]"], unfollowed := true, recurses := true, plainKeys := false, apart := false }
def HistoryFoundSaid : Prop := historyFoundRow.holds Try.pinned (OpenSpec.ofChange historyFoundSpec)

/-- ITS FALSE NEIGHBOUR: 'it returns false'. Refute it at one input. -/
def historyFoundWrong : ChangeSpec := { name := "historyFound", fn := fun _ => fun
  | [d1, d2] => { results := [.lit (.bool false)], args := [d1, d2] }
  | _ => none }
def HistoryFoundWrongFalsely : Prop := historyFoundRow.holds Try.pinned (OpenSpec.ofChange historyFoundWrong)

/-- 'weirlaw29.HistoryOneByOne': WHATEVER THE INPUT: true; the input reads as it did. -/
def historyOneByOneSpec : ChangeSpec := { name := "historyOneByOne", fn := fun _ => fun
  | [d1, d2] => { results := [.lit (.bool true)], args := [d1, d2] }
  | _ => none }
def historyOneByOneRow : OpenClaim := { program := "ythmjlomlceljkaa", sum := "a927a45e678a831e0d0f18627345783476b156c3dbc85960743acafc71694f46", func := "weir/weirlaw29.HistoryOneByOne", spec := "historyOneByOne", inPlace := ["slices.overlaps[weir/api.Force]"], unfollowed := true, recurses := true, plainKeys := false, apart := false }
def HistoryOneByOneSaid : Prop := historyOneByOneRow.holds Try.pinned (OpenSpec.ofChange historyOneByOneSpec)

/-- ITS FALSE NEIGHBOUR: 'it returns false'. Refute it at one input. -/
def historyOneByOneWrong : ChangeSpec := { name := "historyOneByOne", fn := fun _ => fun
  | [d1, d2] => { results := [.lit (.bool false)], args := [d1, d2] }
  | _ => none }
def HistoryOneByOneWrongFalsely : Prop := historyOneByOneRow.holds Try.pinned (OpenSpec.ofChange historyOneByOneWrong)

/- THE SECOND FORM. 'bulk': how many values and letters a reading holds, each counted each time it is reached (what is shared counts as often as it is met; a slice's spare places count too). A statement '..UptoSaid' is the law's where the arguments, and the package variables that the reading takes, are together of bulk at most 1048576: NARROWER than '..Said'. Prove '..Said' where nothing that the law and all that it calls make is longer than what came in: it says more and counts as full. Else prove '..UptoSaid'. A law counts once. -/
mutual
def uptoBulk {H : Type} : DataW H → Nat
  | .lit (.string bytes) => bytes.length + 1
  | .lit _ => 1
  | .nil => 1
  | .ptr d => uptoBulk d + 1
  | .slice elems spare => uptoBulkAll elems + uptoBulkAll spare + 1
  | .agg parts => uptoBulkAll parts + 1
  | .iface _ d => uptoBulk d + 1
  | .map entries => uptoBulkEntries entries + 1
  | .held _ => 1
def uptoBulkAll {H : Type} : List (DataW H) → Nat
  | [] => 0
  | d :: r => uptoBulk d + uptoBulkAll r
def uptoBulkEntries {H : Type} : List (Lit × DataW H) → Nat
  | [] => 0
  | x :: r => uptoBulkEntry x + uptoBulkEntries r
def uptoBulkEntry {H : Type} : Lit × DataW H → Nat
  | (.string bytes, d) => bytes.length + uptoBulk d + 1
  | (_, d) => uptoBulk d + 1
 end
def uptoSmall : (H : Type) → List (DataW H) → Bool := fun _ ds => decide (uptoBulkAll ds ≤ 1048576)
def OpenSpec.upto (s : _root_.Go.ChangeSpec) : _root_.Go.OpenSpec := { _root_.Go.OpenSpec.ofChange s with cond := some uptoSmall }

/-- 'weirlaw21.GrantPlays', WHERE WHAT IT READS IS OF BULK AT MOST 1048576: true; the input reads as it did. -/
def grantPlaysUptoRow : OpenClaim := { program := "ythmjlomlceljkaa", sum := "a927a45e678a831e0d0f18627345783476b156c3dbc85960743acafc71694f46", func := "weir/weirlaw21.GrantPlays", spec := "grantPlays", inPlace := ["maps.clone"], unfollowed := true, recurses := true, plainKeys := false, apart := false, narrowed := true }
def GrantPlaysUptoSaid : Prop := grantPlaysUptoRow.holds Try.pinned (OpenSpec.upto grantPlaysSpec)

/-- 'weirlaw29.HistoryDoes', WHERE WHAT IT READS IS OF BULK AT MOST 1048576: true; the input reads as it did. -/
def historyDoesUptoRow : OpenClaim := { program := "ythmjlomlceljkaa", sum := "a927a45e678a831e0d0f18627345783476b156c3dbc85960743acafc71694f46", func := "weir/weirlaw29.HistoryDoes", spec := "historyDoes", inPlace := ["slices.overlaps[weir/api.Force]"], unfollowed := true, recurses := true, plainKeys := false, apart := false, narrowed := true }
def HistoryDoesUptoSaid : Prop := historyDoesUptoRow.holds Try.pinned (OpenSpec.upto historyDoesSpec)

/-- 'weirlaw29.HistoryTries', WHERE WHAT IT READS IS OF BULK AT MOST 1048576: true; the input reads as it did. -/
def historyTriesUptoRow : OpenClaim := { program := "ythmjlomlceljkaa", sum := "a927a45e678a831e0d0f18627345783476b156c3dbc85960743acafc71694f46", func := "weir/weirlaw29.HistoryTries", spec := "historyTries", inPlace := ["slices.overlaps[weir/api.Force]"], unfollowed := true, recurses := true, plainKeys := false, apart := false, narrowed := true }
def HistoryTriesUptoSaid : Prop := historyTriesUptoRow.holds Try.pinned (OpenSpec.upto historyTriesSpec)

/-- 'weirlaw29.HistoryFits', WHERE WHAT IT READS IS OF BULK AT MOST 1048576: true; the input reads as it did. -/
def historyFitsUptoRow : OpenClaim := { program := "ythmjlomlceljkaa", sum := "a927a45e678a831e0d0f18627345783476b156c3dbc85960743acafc71694f46", func := "weir/weirlaw29.HistoryFits", spec := "historyFits", inPlace := ["slices.overlaps[weir/api.Force]"], unfollowed := true, recurses := true, plainKeys := false, apart := false, narrowed := true }
def HistoryFitsUptoSaid : Prop := historyFitsUptoRow.holds Try.pinned (OpenSpec.upto historyFitsSpec)

/-- 'weirlaw29.HistoryFound', WHERE WHAT IT READS IS OF BULK AT MOST 1048576: true; the input reads as it did. -/
def historyFoundUptoRow : OpenClaim := { program := "ythmjlomlceljkaa", sum := "a927a45e678a831e0d0f18627345783476b156c3dbc85960743acafc71694f46", func := "weir/weirlaw29.HistoryFound", spec := "historyFound", inPlace := ["slices.overlaps[weir/api.Force]"], unfollowed := true, recurses := true, plainKeys := false, apart := false, narrowed := true }
def HistoryFoundUptoSaid : Prop := historyFoundUptoRow.holds Try.pinned (OpenSpec.upto historyFoundSpec)

/-- 'weirlaw29.HistoryOneByOne', WHERE WHAT IT READS IS OF BULK AT MOST 1048576: true; the input reads as it did. -/
def historyOneByOneUptoRow : OpenClaim := { program := "ythmjlomlceljkaa", sum := "a927a45e678a831e0d0f18627345783476b156c3dbc85960743acafc71694f46", func := "weir/weirlaw29.HistoryOneByOne", spec := "historyOneByOne", inPlace := ["slices.overlaps[weir/api.Force]"], unfollowed := true, recurses := true, plainKeys := false, apart := false, narrowed := true }
def HistoryOneByOneUptoSaid : Prop := historyOneByOneUptoRow.holds Try.pinned (OpenSpec.upto historyOneByOneSpec)

end Rows
end Go.Proofs.Ythmjlomlceljkaa
