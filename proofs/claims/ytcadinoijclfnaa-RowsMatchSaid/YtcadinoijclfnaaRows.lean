/-
  No cell of these rows narrows 'for every input' (looked for: loops, veiled, ifaces, maps, wideKeys, modest, calm, conditions, laid).
  DERIVED. THE GIVEN ROWS OF THIS SEAT. 5 by the template 'for every input the law returns true; each argument reads behind the call as it read before'; 0 by the template 'total and deterministic' (their statements: YtcadinoijclfnaaTotals.lean).
  GIVEN WITH THE SEED: the statements are not yours to turn. If you find one false, say at which input.
  Laid BY PROGRAM, IN A SANDBOX (cutbox-rows.mjs): the forced cells as the released guide's own fill.sh prints them over the translation 583f97c5785c9dd7… (all of the seat's roots in one cut). By AI agents, Wed Nov 11 2026. No macro, syntax, notation, axiom, sorry.
-/
import Derived.Test.YtcadinoijclfnaaChecked
import GoSem.Claim
import GoSem.ClaimJoined
import GoSem.ClaimMapViews
import Derived.JoinedTies
import Derived.KernelRfl
namespace Go.Proofs.Ytcadinoijclfnaa
/- THE CELL 'sum', in the pinned program and in every row, IS THE sha256 OF THE DUMP (.gsa) THAT YtcadinoijclfnaaProg.lean LOADS. Nothing in Lean hashes anything: it is a label: what it is worth is what the hold of that sum in a sandbox is worth. -/
noncomputable def Try.pinned : Pinned := { name := "ytcadinoijclfnaa", sum := "583f97c5785c9dd75da13981ddc8a9610239a3b506d10b8f15c06bbeb83d5756", checked := Try.checked }
namespace Rows
def none {H : Type} : Left H := { results := [], args := [] }

/-- 'weirlaw09.RowsMake': WHATEVER THE INPUT: true; the input reads as it did. -/
def rowsMakeSpec : ChangeSpec := { name := "rowsMake", fn := fun _ => fun
  | [d1, d2, d3, d4] => { results := [.lit (.bool true)], args := [d1, d2, d3, d4] }
  | _ => none }
def rowsMakeRow : OpenClaim := { program := "ytcadinoijclfnaa", sum := "583f97c5785c9dd75da13981ddc8a9610239a3b506d10b8f15c06bbeb83d5756", func := "weir/weirlaw09.RowsMake", spec := "rowsMake", unfollowed := true, recurses := true, apart := false }
def RowsMakeSaid : Prop := rowsMakeRow.holds Try.pinned (OpenSpec.ofChange rowsMakeSpec)

/-- ITS FALSE NEIGHBOUR: 'it returns false'. Refute it at one input. -/
def rowsMakeWrong : ChangeSpec := { name := "rowsMake", fn := fun _ => fun
  | [d1, d2, d3, d4] => { results := [.lit (.bool false)], args := [d1, d2, d3, d4] }
  | _ => none }
def RowsMakeWrongFalsely : Prop := rowsMakeRow.holds Try.pinned (OpenSpec.ofChange rowsMakeWrong)

/-- 'weirlaw09.RowsPut': WHATEVER THE INPUT: true; the input reads as it did. -/
def rowsPutSpec : ChangeSpec := { name := "rowsPut", fn := fun _ => fun
  | [d1, d2, d3, d4] => { results := [.lit (.bool true)], args := [d1, d2, d3, d4] }
  | _ => none }
def rowsPutRow : OpenClaim := { program := "ytcadinoijclfnaa", sum := "583f97c5785c9dd75da13981ddc8a9610239a3b506d10b8f15c06bbeb83d5756", func := "weir/weirlaw09.RowsPut", spec := "rowsPut", unfollowed := true, recurses := true, apart := false }
def RowsPutSaid : Prop := rowsPutRow.holds Try.pinned (OpenSpec.ofChange rowsPutSpec)

/-- ITS FALSE NEIGHBOUR: 'it returns false'. Refute it at one input. -/
def rowsPutWrong : ChangeSpec := { name := "rowsPut", fn := fun _ => fun
  | [d1, d2, d3, d4] => { results := [.lit (.bool false)], args := [d1, d2, d3, d4] }
  | _ => none }
def RowsPutWrongFalsely : Prop := rowsPutRow.holds Try.pinned (OpenSpec.ofChange rowsPutWrong)

/-- 'weirlaw09.RowsMatch': WHATEVER THE INPUT: true; the input reads as it did. -/
def rowsMatchSpec : ChangeSpec := { name := "rowsMatch", fn := fun _ => fun
  | [d1, d2, d3, d4] => { results := [.lit (.bool true)], args := [d1, d2, d3, d4] }
  | _ => none }
def rowsMatchRow : OpenClaim := { program := "ytcadinoijclfnaa", sum := "583f97c5785c9dd75da13981ddc8a9610239a3b506d10b8f15c06bbeb83d5756", func := "weir/weirlaw09.RowsMatch", spec := "rowsMatch", unfollowed := true, recurses := true, apart := false }
def RowsMatchSaid : Prop := rowsMatchRow.holds Try.pinned (OpenSpec.ofChange rowsMatchSpec)

/-- ITS FALSE NEIGHBOUR: 'it returns false'. Refute it at one input. -/
def rowsMatchWrong : ChangeSpec := { name := "rowsMatch", fn := fun _ => fun
  | [d1, d2, d3, d4] => { results := [.lit (.bool false)], args := [d1, d2, d3, d4] }
  | _ => none }
def RowsMatchWrongFalsely : Prop := rowsMatchRow.holds Try.pinned (OpenSpec.ofChange rowsMatchWrong)

/-- 'weirlaw09.RowsPieces': WHATEVER THE INPUT: true; the input reads as it did. -/
def rowsPiecesSpec : ChangeSpec := { name := "rowsPieces", fn := fun _ => fun
  | [d1, d2, d3, d4, d5] => { results := [.lit (.bool true)], args := [d1, d2, d3, d4, d5] }
  | _ => none }
def rowsPiecesRow : OpenClaim := { program := "ytcadinoijclfnaa", sum := "583f97c5785c9dd75da13981ddc8a9610239a3b506d10b8f15c06bbeb83d5756", func := "weir/weirlaw09.RowsPieces", spec := "rowsPieces", unfollowed := true, recurses := true, apart := false }
def RowsPiecesSaid : Prop := rowsPiecesRow.holds Try.pinned (OpenSpec.ofChange rowsPiecesSpec)

/-- ITS FALSE NEIGHBOUR: 'it returns false'. Refute it at one input. -/
def rowsPiecesWrong : ChangeSpec := { name := "rowsPieces", fn := fun _ => fun
  | [d1, d2, d3, d4, d5] => { results := [.lit (.bool false)], args := [d1, d2, d3, d4, d5] }
  | _ => none }
def RowsPiecesWrongFalsely : Prop := rowsPiecesRow.holds Try.pinned (OpenSpec.ofChange rowsPiecesWrong)

/-- 'weirlaw11.FollowAsks': WHATEVER THE INPUT: true; the input reads as it did. -/
def followAsksSpec : ChangeSpec := { name := "followAsks", fn := fun _ => fun
  | [d1, d2, d3] => { results := [.lit (.bool true)], args := [d1, d2, d3] }
  | _ => none }
def followAsksRow : OpenClaim := { program := "ytcadinoijclfnaa", sum := "583f97c5785c9dd75da13981ddc8a9610239a3b506d10b8f15c06bbeb83d5756", func := "weir/weirlaw11.FollowAsks", spec := "followAsks", unfollowed := true, recurses := true, apart := false }
def FollowAsksSaid : Prop := followAsksRow.holds Try.pinned (OpenSpec.ofChange followAsksSpec)

/-- ITS FALSE NEIGHBOUR: 'it returns false'. Refute it at one input. -/
def followAsksWrong : ChangeSpec := { name := "followAsks", fn := fun _ => fun
  | [d1, d2, d3] => { results := [.lit (.bool false)], args := [d1, d2, d3] }
  | _ => none }
def FollowAsksWrongFalsely : Prop := followAsksRow.holds Try.pinned (OpenSpec.ofChange followAsksWrong)

/- THE SECOND FORM. 'bulk': how many values and letters a reading holds, each counted each time it is reached (what is shared counts as often as it is met; a slice's spare places count too). A statement '..UptoSaid' is the law's where the arguments, and the package variables that the reading takes, are together of bulk at most 1048576: NARROWER than '..Said'. Prove '..Said' where nothing that the law and all that it calls make is longer than what came in: it says more and counts as full. Else prove '..UptoSaid'. A law counts once. -/
mutual
def uptoBulk {H : Type} : DataW H → Nat
  | .lit (.string bytes) => bytes.length + 1
  | .lit _ => 1
  | .nil => 1
  | .ptr d => uptoBulk d + 1
  | .slice elems spare => uptoBulkAll elems + uptoBulkAll spare + 1
  | .agg parts => uptoBulkAll parts + 1
  | .iface _ d => uptoBulk d + 1
  | .map entries => uptoBulkEntries entries + 1
  | .held _ => 1
def uptoBulkAll {H : Type} : List (DataW H) → Nat
  | [] => 0
  | d :: r => uptoBulk d + uptoBulkAll r
def uptoBulkEntries {H : Type} : List (Lit × DataW H) → Nat
  | [] => 0
  | x :: r => uptoBulkEntry x + uptoBulkEntries r
def uptoBulkEntry {H : Type} : Lit × DataW H → Nat
  | (.string bytes, d) => bytes.length + uptoBulk d + 1
  | (_, d) => uptoBulk d + 1
 end
def uptoSmall : (H : Type) → List (DataW H) → Bool := fun _ ds => decide (uptoBulkAll ds ≤ 1048576)
def OpenSpec.upto (s : _root_.Go.ChangeSpec) : _root_.Go.OpenSpec := { _root_.Go.OpenSpec.ofChange s with cond := some uptoSmall }

/-- 'weirlaw09.RowsMake', WHERE WHAT IT READS IS OF BULK AT MOST 1048576: true; the input reads as it did. -/
def rowsMakeUptoRow : OpenClaim := { program := "ytcadinoijclfnaa", sum := "583f97c5785c9dd75da13981ddc8a9610239a3b506d10b8f15c06bbeb83d5756", func := "weir/weirlaw09.RowsMake", spec := "rowsMake", unfollowed := true, recurses := true, apart := false, narrowed := true }
def RowsMakeUptoSaid : Prop := rowsMakeUptoRow.holds Try.pinned (OpenSpec.upto rowsMakeSpec)

/-- 'weirlaw09.RowsPut', WHERE WHAT IT READS IS OF BULK AT MOST 1048576: true; the input reads as it did. -/
def rowsPutUptoRow : OpenClaim := { program := "ytcadinoijclfnaa", sum := "583f97c5785c9dd75da13981ddc8a9610239a3b506d10b8f15c06bbeb83d5756", func := "weir/weirlaw09.RowsPut", spec := "rowsPut", unfollowed := true, recurses := true, apart := false, narrowed := true }
def RowsPutUptoSaid : Prop := rowsPutUptoRow.holds Try.pinned (OpenSpec.upto rowsPutSpec)

/-- 'weirlaw09.RowsMatch', WHERE WHAT IT READS IS OF BULK AT MOST 1048576: true; the input reads as it did. -/
def rowsMatchUptoRow : OpenClaim := { program := "ytcadinoijclfnaa", sum := "583f97c5785c9dd75da13981ddc8a9610239a3b506d10b8f15c06bbeb83d5756", func := "weir/weirlaw09.RowsMatch", spec := "rowsMatch", unfollowed := true, recurses := true, apart := false, narrowed := true }
def RowsMatchUptoSaid : Prop := rowsMatchUptoRow.holds Try.pinned (OpenSpec.upto rowsMatchSpec)

/-- 'weirlaw09.RowsPieces', WHERE WHAT IT READS IS OF BULK AT MOST 1048576: true; the input reads as it did. -/
def rowsPiecesUptoRow : OpenClaim := { program := "ytcadinoijclfnaa", sum := "583f97c5785c9dd75da13981ddc8a9610239a3b506d10b8f15c06bbeb83d5756", func := "weir/weirlaw09.RowsPieces", spec := "rowsPieces", unfollowed := true, recurses := true, apart := false, narrowed := true }
def RowsPiecesUptoSaid : Prop := rowsPiecesUptoRow.holds Try.pinned (OpenSpec.upto rowsPiecesSpec)

/-- 'weirlaw11.FollowAsks', WHERE WHAT IT READS IS OF BULK AT MOST 1048576: true; the input reads as it did. -/
def followAsksUptoRow : OpenClaim := { program := "ytcadinoijclfnaa", sum := "583f97c5785c9dd75da13981ddc8a9610239a3b506d10b8f15c06bbeb83d5756", func := "weir/weirlaw11.FollowAsks", spec := "followAsks", unfollowed := true, recurses := true, apart := false, narrowed := true }
def FollowAsksUptoSaid : Prop := followAsksUptoRow.holds Try.pinned (OpenSpec.upto followAsksSpec)

end Rows
end Go.Proofs.Ytcadinoijclfnaa
