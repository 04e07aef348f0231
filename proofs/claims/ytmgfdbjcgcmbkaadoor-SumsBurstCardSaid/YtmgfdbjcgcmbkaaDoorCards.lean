/-
  DERIVED. GIVEN WITH THE SEED: THE CARDS: each row of YtmgfdbjcgcmbkaaDoorRows.lean that lists a variable, with what it lists TIED to the program's text (the seventh form; the later family's looks); each row that meets fmt, with fmt's text TOLD by the authors' own Lean function (tested against real Go, not proved from fmt's source: count such statements apart). THE CARD IS WHAT COUNTS. Prove the row's statement (the work); the ties are given (YtmgfdbjcgcmbkaaDoorTie.lean); close each card by the builder's one call (the guide's Derived/Test/ToyasCard.lean, 'card_holds'). Laid BY PROGRAM, IN A SANDBOX (cutbox-door.mjs). By AI agents, Wed Nov 11 2026. No macro, syntax, notation, axiom, sorry.
-/
import Derived.Test.YtmgfdbjcgcmbkaaDoorRows
import GoSem.ClaimSeven
namespace Go.Proofs.YtmgfdbjcgcmbkaaDoor
namespace Rows

/-- THE TIED CARD OF 'weirlaw04.SumsTell'. -/
def sumsTellCard : Claim7 := { stood := { row := sumsTellRow, standIns := [], harness := (true, "ef5d23526a6d9beed360fcb33c149d1e6c01cbdec6f2a334f6a1418a89f5b1c1"), looks := false }, kinds := [], alts := [], laidByText := true, laidKinds := [.data], laidTests := true, laidLooks := .later }
def SumsTellCardSaid : Prop := Claim7.holds Tryd.pinned (.plain (OpenSpec.ofChange sumsTellSpec)) sumsTellCard

/-- THE TIED CARD OF 'weirlaw04.SumsSigned'. -/
def sumsSignedCard : Claim7 := { stood := { row := sumsSignedRow, standIns := [], harness := (true, "ef5d23526a6d9beed360fcb33c149d1e6c01cbdec6f2a334f6a1418a89f5b1c1"), looks := false }, kinds := [], alts := [], laidByText := true, laidKinds := [.data], laidTests := true, laidLooks := .later }
def SumsSignedCardSaid : Prop := Claim7.holds Tryd.pinned (.plain (OpenSpec.ofChange sumsSignedSpec)) sumsSignedCard

/-- THE TIED CARD OF 'weirlaw04.SumsPieces'. -/
def sumsPiecesCard : Claim7 := { stood := { row := sumsPiecesRow, standIns := [], harness := (true, "ef5d23526a6d9beed360fcb33c149d1e6c01cbdec6f2a334f6a1418a89f5b1c1"), looks := false }, kinds := [], alts := [], laidByText := true, laidKinds := [.data], laidTests := true, laidLooks := .later }
def SumsPiecesCardSaid : Prop := Claim7.holds Tryd.pinned (.plain (OpenSpec.ofChange sumsPiecesSpec)) sumsPiecesCard

/-- THE TIED CARD OF 'weirlaw04.SumsBurst'. -/
def sumsBurstCard : Claim7 := { stood := { row := sumsBurstRow, standIns := [], harness := (true, "ef5d23526a6d9beed360fcb33c149d1e6c01cbdec6f2a334f6a1418a89f5b1c1"), looks := false }, kinds := [], alts := [], laidByText := true, laidKinds := [.data], laidTests := true, laidLooks := .later }
def SumsBurstCardSaid : Prop := Claim7.holds Tryd.pinned (.plain (OpenSpec.ofChange sumsBurstSpec)) sumsBurstCard

/-- THE SECOND FORM's CARD OF 'weirlaw04.SumsTell'. -/
def sumsTellUptoCard : Claim7 := { stood := { row := sumsTellUptoRow, standIns := [], harness := (true, "ef5d23526a6d9beed360fcb33c149d1e6c01cbdec6f2a334f6a1418a89f5b1c1"), looks := false }, kinds := [], alts := [], laidByText := true, laidKinds := [.data], laidTests := true, laidLooks := .later }
def SumsTellUptoCardSaid : Prop := Claim7.holds Tryd.pinned (.plain (OpenSpec.upto sumsTellSpec)) sumsTellUptoCard

/-- THE SECOND FORM's CARD OF 'weirlaw04.SumsSigned'. -/
def sumsSignedUptoCard : Claim7 := { stood := { row := sumsSignedUptoRow, standIns := [], harness := (true, "ef5d23526a6d9beed360fcb33c149d1e6c01cbdec6f2a334f6a1418a89f5b1c1"), looks := false }, kinds := [], alts := [], laidByText := true, laidKinds := [.data], laidTests := true, laidLooks := .later }
def SumsSignedUptoCardSaid : Prop := Claim7.holds Tryd.pinned (.plain (OpenSpec.upto sumsSignedSpec)) sumsSignedUptoCard

/-- THE SECOND FORM's CARD OF 'weirlaw04.SumsPieces'. -/
def sumsPiecesUptoCard : Claim7 := { stood := { row := sumsPiecesUptoRow, standIns := [], harness := (true, "ef5d23526a6d9beed360fcb33c149d1e6c01cbdec6f2a334f6a1418a89f5b1c1"), looks := false }, kinds := [], alts := [], laidByText := true, laidKinds := [.data], laidTests := true, laidLooks := .later }
def SumsPiecesUptoCardSaid : Prop := Claim7.holds Tryd.pinned (.plain (OpenSpec.upto sumsPiecesSpec)) sumsPiecesUptoCard

/-- THE SECOND FORM's CARD OF 'weirlaw04.SumsBurst'. -/
def sumsBurstUptoCard : Claim7 := { stood := { row := sumsBurstUptoRow, standIns := [], harness := (true, "ef5d23526a6d9beed360fcb33c149d1e6c01cbdec6f2a334f6a1418a89f5b1c1"), looks := false }, kinds := [], alts := [], laidByText := true, laidKinds := [.data], laidTests := true, laidLooks := .later }
def SumsBurstUptoCardSaid : Prop := Claim7.holds Tryd.pinned (.plain (OpenSpec.upto sumsBurstSpec)) sumsBurstUptoCard
end Rows
end Go.Proofs.YtmgfdbjcgcmbkaaDoor
