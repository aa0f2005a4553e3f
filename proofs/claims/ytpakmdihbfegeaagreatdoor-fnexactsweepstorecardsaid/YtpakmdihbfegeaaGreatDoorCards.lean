/-
  DERIVED. GIVEN WITH THE SEED: THE CARDS: each row of YtpakmdihbfegeaaGreatDoorRows.lean that lists a variable, with what it lists TIED to the program's text (the seventh form; the later family's looks); each row that meets fmt, with fmt's text TOLD by the authors' own Lean function (tested against real Go, not proved from fmt's source: count such statements apart). THE CARD IS WHAT COUNTS. Prove the row's statement (the work); the ties are given (YtpakmdihbfegeaaGreatDoorTie.lean); close each card by the builder's one call (the guide's Derived/Test/ToyasCard.lean, 'card_holds'). Laid BY PROGRAM, IN A SANDBOX (cutbox-door.mjs). By AI agents, Wed Nov 11 2026. No macro, syntax, notation, axiom, sorry.
-/
import Derived.Test.YtpakmdihbfegeaaGreatDoorRows
import GoSem.ClaimSeven
namespace Go.Proofs.YtpakmdihbfegeaaGreatDoor
namespace Rows

/-- THE TIED CARD OF 'laws.FnExactPrewrite'. -/
def fnExactPrewriteCard : Claim7 := { stood := { row := fnExactPrewriteRow, standIns := [], harness := (true, "02925ed7830f23d09b363d3f2c603b1fcf740db0ffc4bc1de71081b48819b259"), looks := true }, kinds := [], alts := [], laidByText := true, laidKinds := [.handle], laidTests := true, laidLooks := .later }
def FnExactPrewriteCardSaid : Prop := Claim7.holds Tryz.pinned (.plain (OpenSpec.ofChange fnExactPrewriteSpec)) fnExactPrewriteCard

/-- THE TIED CARD OF 'laws.FnExactCommitKey'. -/
def fnExactCommitKeyCard : Claim7 := { stood := { row := fnExactCommitKeyRow, standIns := [], harness := (true, "02925ed7830f23d09b363d3f2c603b1fcf740db0ffc4bc1de71081b48819b259"), looks := true }, kinds := [], alts := [], laidByText := true, laidKinds := [.handle], laidTests := true, laidLooks := .later }
def FnExactCommitKeyCardSaid : Prop := Claim7.holds Tryz.pinned (.plain (OpenSpec.ofChange fnExactCommitKeySpec)) fnExactCommitKeyCard

/-- THE TIED CARD OF 'laws.FnExactRollbackKey'. -/
def fnExactRollbackKeyCard : Claim7 := { stood := { row := fnExactRollbackKeyRow, standIns := [], harness := (true, "02925ed7830f23d09b363d3f2c603b1fcf740db0ffc4bc1de71081b48819b259"), looks := true }, kinds := [], alts := [], laidByText := true, laidKinds := [.handle], laidTests := true, laidLooks := .later }
def FnExactRollbackKeyCardSaid : Prop := Claim7.holds Tryz.pinned (.plain (OpenSpec.ofChange fnExactRollbackKeySpec)) fnExactRollbackKeyCard

/-- THE TIED CARD OF 'laws.FnExactSweepStore'. -/
def fnExactSweepStoreCard : Claim7 := { stood := { row := fnExactSweepStoreRow, standIns := [], harness := (true, "02925ed7830f23d09b363d3f2c603b1fcf740db0ffc4bc1de71081b48819b259"), looks := true }, kinds := [], alts := [], laidByText := true, laidKinds := [.handle], laidTests := true, laidLooks := .later }
def FnExactSweepStoreCardSaid : Prop := Claim7.holds Tryz.pinned (.plain (OpenSpec.ofChange fnExactSweepStoreSpec)) fnExactSweepStoreCard

/-- THE SECOND FORM's CARD OF 'laws.FnExactPrewrite'. -/
def fnExactPrewriteUptoCard : Claim7 := { stood := { row := fnExactPrewriteUptoRow, standIns := [], harness := (true, "02925ed7830f23d09b363d3f2c603b1fcf740db0ffc4bc1de71081b48819b259"), looks := true }, kinds := [], alts := [], laidByText := true, laidKinds := [.handle], laidTests := true, laidLooks := .later }
def FnExactPrewriteUptoCardSaid : Prop := Claim7.holds Tryz.pinned (.plain (OpenSpec.upto fnExactPrewriteSpec)) fnExactPrewriteUptoCard

/-- THE SECOND FORM's CARD OF 'laws.FnExactCommitKey'. -/
def fnExactCommitKeyUptoCard : Claim7 := { stood := { row := fnExactCommitKeyUptoRow, standIns := [], harness := (true, "02925ed7830f23d09b363d3f2c603b1fcf740db0ffc4bc1de71081b48819b259"), looks := true }, kinds := [], alts := [], laidByText := true, laidKinds := [.handle], laidTests := true, laidLooks := .later }
def FnExactCommitKeyUptoCardSaid : Prop := Claim7.holds Tryz.pinned (.plain (OpenSpec.upto fnExactCommitKeySpec)) fnExactCommitKeyUptoCard

/-- THE SECOND FORM's CARD OF 'laws.FnExactRollbackKey'. -/
def fnExactRollbackKeyUptoCard : Claim7 := { stood := { row := fnExactRollbackKeyUptoRow, standIns := [], harness := (true, "02925ed7830f23d09b363d3f2c603b1fcf740db0ffc4bc1de71081b48819b259"), looks := true }, kinds := [], alts := [], laidByText := true, laidKinds := [.handle], laidTests := true, laidLooks := .later }
def FnExactRollbackKeyUptoCardSaid : Prop := Claim7.holds Tryz.pinned (.plain (OpenSpec.upto fnExactRollbackKeySpec)) fnExactRollbackKeyUptoCard

/-- THE SECOND FORM's CARD OF 'laws.FnExactSweepStore'. -/
def fnExactSweepStoreUptoCard : Claim7 := { stood := { row := fnExactSweepStoreUptoRow, standIns := [], harness := (true, "02925ed7830f23d09b363d3f2c603b1fcf740db0ffc4bc1de71081b48819b259"), looks := true }, kinds := [], alts := [], laidByText := true, laidKinds := [.handle], laidTests := true, laidLooks := .later }
def FnExactSweepStoreUptoCardSaid : Prop := Claim7.holds Tryz.pinned (.plain (OpenSpec.upto fnExactSweepStoreSpec)) fnExactSweepStoreUptoCard
end Rows
end Go.Proofs.YtpakmdihbfegeaaGreatDoor
