/-
  DERIVED. GIVEN WITH THE SEED: THE CARDS: each row of YtnkdphdpecgmiaaGreatDoorRows.lean that lists a variable, with what it lists TIED to the program's text (the seventh form; the later family's looks); each row that meets fmt, with fmt's text TOLD by the authors' own Lean function (tested against real Go, not proved from fmt's source: count such statements apart). THE CARD IS WHAT COUNTS. Prove the row's statement (the work); the ties are given (YtnkdphdpecgmiaaGreatDoorTie.lean); close each card by the builder's one call (the guide's Derived/Test/ToyasCard.lean, 'card_holds'). Laid BY PROGRAM, IN A SANDBOX (cutbox-door.mjs). By AI agents, Wed Nov 11 2026. No macro, syntax, notation, axiom, sorry.
-/
import Derived.Test.YtnkdphdpecgmiaaGreatDoorRows
import GoSem.ClaimSeven
namespace Go.Proofs.YtnkdphdpecgmiaaGreatDoor
namespace Rows

/-- THE TIED CARD OF 'laws.FnExactPrewrite'. -/
def fnExactPrewriteCard : Claim7 := { stood := { row := fnExactPrewriteRow, standIns := [], harness := (true, "d82aacdddd5589bf0cc422c1ba9a438fcca23ed890172eaa61ea6f927baf4b1d"), looks := true }, kinds := [], alts := [], laidByText := true, laidKinds := [.handle], laidTests := true, laidLooks := .later }
def FnExactPrewriteCardSaid : Prop := Claim7.holds Tryz.pinned (.plain (OpenSpec.ofChange fnExactPrewriteSpec)) fnExactPrewriteCard

/-- THE TIED CARD OF 'laws.FnExactCommitKey'. -/
def fnExactCommitKeyCard : Claim7 := { stood := { row := fnExactCommitKeyRow, standIns := [], harness := (true, "d82aacdddd5589bf0cc422c1ba9a438fcca23ed890172eaa61ea6f927baf4b1d"), looks := true }, kinds := [], alts := [], laidByText := true, laidKinds := [.handle], laidTests := true, laidLooks := .later }
def FnExactCommitKeyCardSaid : Prop := Claim7.holds Tryz.pinned (.plain (OpenSpec.ofChange fnExactCommitKeySpec)) fnExactCommitKeyCard

/-- THE TIED CARD OF 'laws.FnExactRollbackKey'. -/
def fnExactRollbackKeyCard : Claim7 := { stood := { row := fnExactRollbackKeyRow, standIns := [], harness := (true, "d82aacdddd5589bf0cc422c1ba9a438fcca23ed890172eaa61ea6f927baf4b1d"), looks := true }, kinds := [], alts := [], laidByText := true, laidKinds := [.handle], laidTests := true, laidLooks := .later }
def FnExactRollbackKeyCardSaid : Prop := Claim7.holds Tryz.pinned (.plain (OpenSpec.ofChange fnExactRollbackKeySpec)) fnExactRollbackKeyCard

/-- THE SECOND FORM's CARD OF 'laws.FnExactPrewrite'. -/
def fnExactPrewriteUptoCard : Claim7 := { stood := { row := fnExactPrewriteUptoRow, standIns := [], harness := (true, "d82aacdddd5589bf0cc422c1ba9a438fcca23ed890172eaa61ea6f927baf4b1d"), looks := true }, kinds := [], alts := [], laidByText := true, laidKinds := [.handle], laidTests := true, laidLooks := .later }
def FnExactPrewriteUptoCardSaid : Prop := Claim7.holds Tryz.pinned (.plain (OpenSpec.upto fnExactPrewriteSpec)) fnExactPrewriteUptoCard

/-- THE SECOND FORM's CARD OF 'laws.FnExactCommitKey'. -/
def fnExactCommitKeyUptoCard : Claim7 := { stood := { row := fnExactCommitKeyUptoRow, standIns := [], harness := (true, "d82aacdddd5589bf0cc422c1ba9a438fcca23ed890172eaa61ea6f927baf4b1d"), looks := true }, kinds := [], alts := [], laidByText := true, laidKinds := [.handle], laidTests := true, laidLooks := .later }
def FnExactCommitKeyUptoCardSaid : Prop := Claim7.holds Tryz.pinned (.plain (OpenSpec.upto fnExactCommitKeySpec)) fnExactCommitKeyUptoCard

/-- THE SECOND FORM's CARD OF 'laws.FnExactRollbackKey'. -/
def fnExactRollbackKeyUptoCard : Claim7 := { stood := { row := fnExactRollbackKeyUptoRow, standIns := [], harness := (true, "d82aacdddd5589bf0cc422c1ba9a438fcca23ed890172eaa61ea6f927baf4b1d"), looks := true }, kinds := [], alts := [], laidByText := true, laidKinds := [.handle], laidTests := true, laidLooks := .later }
def FnExactRollbackKeyUptoCardSaid : Prop := Claim7.holds Tryz.pinned (.plain (OpenSpec.upto fnExactRollbackKeySpec)) fnExactRollbackKeyUptoCard
end Rows
end Go.Proofs.YtnkdphdpecgmiaaGreatDoor
