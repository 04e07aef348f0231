/-
  DERIVED. GIVEN WITH THE SEED: THE CARDS: each row of YtiednacpmlilbaaDoorRows.lean that lists a variable, with what it lists TIED to the program's text (the seventh form; the later family's looks); each row that meets fmt, with fmt's text TOLD by the authors' own Lean function (tested against real Go, not proved from fmt's source: count such statements apart). THE CARD IS WHAT COUNTS. Prove the row's statement (the work); the ties are given (YtiednacpmlilbaaDoorTie.lean); close each card by the builder's one call (the guide's Derived/Test/ToyasCard.lean, 'card_holds'). Laid BY PROGRAM, IN A SANDBOX (cutbox-door.mjs). By AI agents, Wed Nov 11 2026. No macro, syntax, notation, axiom, sorry.
-/
import Derived.Test.YtiednacpmlilbaaDoorRows
import GoSem.ClaimSeven
namespace Go.Proofs.YtiednacpmlilbaaDoor
namespace Rows

/-- THE TIED CARD OF 'weirlaw05.WireEntry'. -/
def wireEntryCard : Claim7 := { stood := { row := wireEntryRow, standIns := [], harness := (true, "d61bb5919ef0206f77e1d8f7ae2df507a6b1b4d1e988ae3f3cea6e3792ec75e2"), looks := true }, kinds := [], alts := [], laidByText := true, laidKinds := [.data], laidTests := true, laidLooks := .later }
def WireEntryCardSaid : Prop := Claim7.holds Tryd.pinned (.plain (OpenSpec.ofChange wireEntrySpec)) wireEntryCard

/-- THE TIED CARD OF 'weirlaw05.WireMessage'. -/
def wireMessageCard : Claim7 := { stood := { row := wireMessageRow, standIns := [], harness := (true, "d61bb5919ef0206f77e1d8f7ae2df507a6b1b4d1e988ae3f3cea6e3792ec75e2"), looks := true }, kinds := [], alts := [], laidByText := true, laidKinds := [.data], laidTests := true, laidLooks := .later }
def WireMessageCardSaid : Prop := Claim7.holds Tryd.pinned (.plain (OpenSpec.ofChange wireMessageSpec)) wireMessageCard

/-- THE TIED CARD OF 'weirlaw05.WireCommand'. -/
def wireCommandCard : Claim7 := { stood := { row := wireCommandRow, standIns := [], harness := (true, "d61bb5919ef0206f77e1d8f7ae2df507a6b1b4d1e988ae3f3cea6e3792ec75e2"), looks := true }, kinds := [], alts := [], laidByText := true, laidKinds := [.data], laidTests := true, laidLooks := .later }
def WireCommandCardSaid : Prop := Claim7.holds Tryd.pinned (.plain (OpenSpec.ofChange wireCommandSpec)) wireCommandCard

/-- THE TIED CARD OF 'weirlaw05.WireState'. -/
def wireStateCard : Claim7 := { stood := { row := wireStateRow, standIns := [], harness := (true, "d61bb5919ef0206f77e1d8f7ae2df507a6b1b4d1e988ae3f3cea6e3792ec75e2"), looks := true }, kinds := [], alts := [], laidByText := true, laidKinds := [.data], laidTests := true, laidLooks := .later }
def WireStateCardSaid : Prop := Claim7.holds Tryd.pinned (.plain (OpenSpec.ofChange wireStateSpec)) wireStateCard

/-- THE TIED CARD OF 'weirlaw05.WireFrame'. -/
def wireFrameCard : Claim7 := { stood := { row := wireFrameRow, standIns := [], harness := (true, "d61bb5919ef0206f77e1d8f7ae2df507a6b1b4d1e988ae3f3cea6e3792ec75e2"), looks := true }, kinds := [], alts := [], laidByText := true, laidKinds := [.data], laidTests := true, laidLooks := .later }
def WireFrameCardSaid : Prop := Claim7.holds Tryd.pinned (.plain (OpenSpec.ofChange wireFrameSpec)) wireFrameCard

/-- THE TIED CARD OF 'weirlaw05.WireBack'. -/
def wireBackCard : Claim7 := { stood := { row := wireBackRow, standIns := [], harness := (true, "d61bb5919ef0206f77e1d8f7ae2df507a6b1b4d1e988ae3f3cea6e3792ec75e2"), looks := true }, kinds := [], alts := [], laidByText := true, laidKinds := [.data], laidTests := true, laidLooks := .later }
def WireBackCardSaid : Prop := Claim7.holds Tryd.pinned (.plain (OpenSpec.ofChange wireBackSpec)) wireBackCard

/-- THE SECOND FORM's CARD OF 'weirlaw05.WireEntry'. -/
def wireEntryUptoCard : Claim7 := { stood := { row := wireEntryUptoRow, standIns := [], harness := (true, "d61bb5919ef0206f77e1d8f7ae2df507a6b1b4d1e988ae3f3cea6e3792ec75e2"), looks := true }, kinds := [], alts := [], laidByText := true, laidKinds := [.data], laidTests := true, laidLooks := .later }
def WireEntryUptoCardSaid : Prop := Claim7.holds Tryd.pinned (.plain (OpenSpec.upto wireEntrySpec)) wireEntryUptoCard

/-- THE SECOND FORM's CARD OF 'weirlaw05.WireMessage'. -/
def wireMessageUptoCard : Claim7 := { stood := { row := wireMessageUptoRow, standIns := [], harness := (true, "d61bb5919ef0206f77e1d8f7ae2df507a6b1b4d1e988ae3f3cea6e3792ec75e2"), looks := true }, kinds := [], alts := [], laidByText := true, laidKinds := [.data], laidTests := true, laidLooks := .later }
def WireMessageUptoCardSaid : Prop := Claim7.holds Tryd.pinned (.plain (OpenSpec.upto wireMessageSpec)) wireMessageUptoCard

/-- THE SECOND FORM's CARD OF 'weirlaw05.WireCommand'. -/
def wireCommandUptoCard : Claim7 := { stood := { row := wireCommandUptoRow, standIns := [], harness := (true, "d61bb5919ef0206f77e1d8f7ae2df507a6b1b4d1e988ae3f3cea6e3792ec75e2"), looks := true }, kinds := [], alts := [], laidByText := true, laidKinds := [.data], laidTests := true, laidLooks := .later }
def WireCommandUptoCardSaid : Prop := Claim7.holds Tryd.pinned (.plain (OpenSpec.upto wireCommandSpec)) wireCommandUptoCard

/-- THE SECOND FORM's CARD OF 'weirlaw05.WireState'. -/
def wireStateUptoCard : Claim7 := { stood := { row := wireStateUptoRow, standIns := [], harness := (true, "d61bb5919ef0206f77e1d8f7ae2df507a6b1b4d1e988ae3f3cea6e3792ec75e2"), looks := true }, kinds := [], alts := [], laidByText := true, laidKinds := [.data], laidTests := true, laidLooks := .later }
def WireStateUptoCardSaid : Prop := Claim7.holds Tryd.pinned (.plain (OpenSpec.upto wireStateSpec)) wireStateUptoCard

/-- THE SECOND FORM's CARD OF 'weirlaw05.WireFrame'. -/
def wireFrameUptoCard : Claim7 := { stood := { row := wireFrameUptoRow, standIns := [], harness := (true, "d61bb5919ef0206f77e1d8f7ae2df507a6b1b4d1e988ae3f3cea6e3792ec75e2"), looks := true }, kinds := [], alts := [], laidByText := true, laidKinds := [.data], laidTests := true, laidLooks := .later }
def WireFrameUptoCardSaid : Prop := Claim7.holds Tryd.pinned (.plain (OpenSpec.upto wireFrameSpec)) wireFrameUptoCard

/-- THE SECOND FORM's CARD OF 'weirlaw05.WireBack'. -/
def wireBackUptoCard : Claim7 := { stood := { row := wireBackUptoRow, standIns := [], harness := (true, "d61bb5919ef0206f77e1d8f7ae2df507a6b1b4d1e988ae3f3cea6e3792ec75e2"), looks := true }, kinds := [], alts := [], laidByText := true, laidKinds := [.data], laidTests := true, laidLooks := .later }
def WireBackUptoCardSaid : Prop := Claim7.holds Tryd.pinned (.plain (OpenSpec.upto wireBackSpec)) wireBackUptoCard
end Rows
end Go.Proofs.YtiednacpmlilbaaDoor
