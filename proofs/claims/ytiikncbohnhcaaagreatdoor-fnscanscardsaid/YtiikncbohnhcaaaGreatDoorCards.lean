/-
  DERIVED. GIVEN WITH THE SEED: THE CARDS: each row of YtiikncbohnhcaaaGreatDoorRows.lean that lists a variable, with what it lists TIED to the program's text (the seventh form; the later family's looks); each row that meets fmt, with fmt's text TOLD by the authors' own Lean function (tested against real Go, not proved from fmt's source: count such statements apart). THE CARD IS WHAT COUNTS. Prove the row's statement (the work); the ties are given (YtiikncbohnhcaaaGreatDoorTie.lean); close each card by the builder's one call (the guide's Derived/Test/ToyasCard.lean, 'card_holds'). Laid BY PROGRAM, IN A SANDBOX (cutbox-door.mjs). By AI agents, Wed Nov 11 2026. No macro, syntax, notation, axiom, sorry.
-/
import Derived.Test.YtiikncbohnhcaaaGreatDoorRows
import GoSem.ClaimSeven
namespace Go.Proofs.YtiikncbohnhcaaaGreatDoor
namespace Rows

/-- THE TIED CARD OF 'laws.FnPrewrites'. -/
def fnPrewritesCard : Claim7 := { stood := { row := fnPrewritesRow, standIns := [], harness := (true, "c0a4e5c3022baaaf8e5a1b1d920cc67695c88d595afbd01f95000b02d541c7fe"), looks := true }, kinds := [], alts := [], laidByText := true, laidKinds := [.handle], laidTests := true, laidLooks := .later }
def FnPrewritesCardSaid : Prop := Claim7.holds Tryz.pinned (.plain (OpenSpec.ofChange fnPrewritesSpec)) fnPrewritesCard

/-- THE TIED CARD OF 'laws.FnCommits'. -/
def fnCommitsCard : Claim7 := { stood := { row := fnCommitsRow, standIns := [], harness := (true, "c0a4e5c3022baaaf8e5a1b1d920cc67695c88d595afbd01f95000b02d541c7fe"), looks := true }, kinds := [], alts := [], laidByText := true, laidKinds := [.handle], laidTests := true, laidLooks := .later }
def FnCommitsCardSaid : Prop := Claim7.holds Tryz.pinned (.plain (OpenSpec.ofChange fnCommitsSpec)) fnCommitsCard

/-- THE TIED CARD OF 'laws.FnBacks'. -/
def fnBacksCard : Claim7 := { stood := { row := fnBacksRow, standIns := [], harness := (true, "c0a4e5c3022baaaf8e5a1b1d920cc67695c88d595afbd01f95000b02d541c7fe"), looks := true }, kinds := [], alts := [], laidByText := true, laidKinds := [.handle], laidTests := true, laidLooks := .later }
def FnBacksCardSaid : Prop := Claim7.holds Tryz.pinned (.plain (OpenSpec.ofChange fnBacksSpec)) fnBacksCard

/-- THE TIED CARD OF 'laws.FnScans'. -/
def fnScansCard : Claim7 := { stood := { row := fnScansRow, standIns := [], harness := (true, "c0a4e5c3022baaaf8e5a1b1d920cc67695c88d595afbd01f95000b02d541c7fe"), looks := true }, kinds := [], alts := [], laidByText := true, laidKinds := [.handle], laidTests := true, laidLooks := .later }
def FnScansCardSaid : Prop := Claim7.holds Tryz.pinned (.plain (OpenSpec.ofChange fnScansSpec)) fnScansCard

/-- THE SECOND FORM's CARD OF 'laws.FnPrewrites'. -/
def fnPrewritesUptoCard : Claim7 := { stood := { row := fnPrewritesUptoRow, standIns := [], harness := (true, "c0a4e5c3022baaaf8e5a1b1d920cc67695c88d595afbd01f95000b02d541c7fe"), looks := true }, kinds := [], alts := [], laidByText := true, laidKinds := [.handle], laidTests := true, laidLooks := .later }
def FnPrewritesUptoCardSaid : Prop := Claim7.holds Tryz.pinned (.plain (OpenSpec.upto fnPrewritesSpec)) fnPrewritesUptoCard

/-- THE SECOND FORM's CARD OF 'laws.FnCommits'. -/
def fnCommitsUptoCard : Claim7 := { stood := { row := fnCommitsUptoRow, standIns := [], harness := (true, "c0a4e5c3022baaaf8e5a1b1d920cc67695c88d595afbd01f95000b02d541c7fe"), looks := true }, kinds := [], alts := [], laidByText := true, laidKinds := [.handle], laidTests := true, laidLooks := .later }
def FnCommitsUptoCardSaid : Prop := Claim7.holds Tryz.pinned (.plain (OpenSpec.upto fnCommitsSpec)) fnCommitsUptoCard

/-- THE SECOND FORM's CARD OF 'laws.FnBacks'. -/
def fnBacksUptoCard : Claim7 := { stood := { row := fnBacksUptoRow, standIns := [], harness := (true, "c0a4e5c3022baaaf8e5a1b1d920cc67695c88d595afbd01f95000b02d541c7fe"), looks := true }, kinds := [], alts := [], laidByText := true, laidKinds := [.handle], laidTests := true, laidLooks := .later }
def FnBacksUptoCardSaid : Prop := Claim7.holds Tryz.pinned (.plain (OpenSpec.upto fnBacksSpec)) fnBacksUptoCard

/-- THE SECOND FORM's CARD OF 'laws.FnScans'. -/
def fnScansUptoCard : Claim7 := { stood := { row := fnScansUptoRow, standIns := [], harness := (true, "c0a4e5c3022baaaf8e5a1b1d920cc67695c88d595afbd01f95000b02d541c7fe"), looks := true }, kinds := [], alts := [], laidByText := true, laidKinds := [.handle], laidTests := true, laidLooks := .later }
def FnScansUptoCardSaid : Prop := Claim7.holds Tryz.pinned (.plain (OpenSpec.upto fnScansSpec)) fnScansUptoCard
end Rows
end Go.Proofs.YtiikncbohnhcaaaGreatDoor
