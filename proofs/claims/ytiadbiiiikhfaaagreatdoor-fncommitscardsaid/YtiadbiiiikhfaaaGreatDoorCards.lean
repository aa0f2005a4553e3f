/-
  DERIVED. GIVEN WITH THE SEED: THE CARDS: each row of YtiadbiiiikhfaaaGreatDoorRows.lean that lists a variable, with what it lists TIED to the program's text (the seventh form; the later family's looks); each row that meets fmt, with fmt's text TOLD by the authors' own Lean function (tested against real Go, not proved from fmt's source: count such statements apart). THE CARD IS WHAT COUNTS. Prove the row's statement (the work); the ties are given (YtiadbiiiikhfaaaGreatDoorTie.lean); close each card by the builder's one call (the guide's Derived/Test/ToyasCard.lean, 'card_holds'). Laid BY PROGRAM, IN A SANDBOX (cutbox-door.mjs). By AI agents, Wed Nov 11 2026. No macro, syntax, notation, axiom, sorry.
-/
import Derived.Test.YtiadbiiiikhfaaaGreatDoorRows
import GoSem.ClaimSeven
namespace Go.Proofs.YtiadbiiiikhfaaaGreatDoor
namespace Rows

/-- THE TIED CARD OF 'laws.FnPrewrites'. -/
def fnPrewritesCard : Claim7 := { stood := { row := fnPrewritesRow, standIns := [], harness := (true, "4985d3145efca969304f80605f9e17a2539d33dd01523dad9873ac43e07d7c5e"), looks := true }, kinds := [], alts := [], laidByText := true, laidKinds := [.handle], laidTests := true, laidLooks := .later }
def FnPrewritesCardSaid : Prop := Claim7.holds Tryz.pinned (.plain (OpenSpec.ofChange fnPrewritesSpec)) fnPrewritesCard

/-- THE TIED CARD OF 'laws.FnCommits'. -/
def fnCommitsCard : Claim7 := { stood := { row := fnCommitsRow, standIns := [], harness := (true, "4985d3145efca969304f80605f9e17a2539d33dd01523dad9873ac43e07d7c5e"), looks := true }, kinds := [], alts := [], laidByText := true, laidKinds := [.handle], laidTests := true, laidLooks := .later }
def FnCommitsCardSaid : Prop := Claim7.holds Tryz.pinned (.plain (OpenSpec.ofChange fnCommitsSpec)) fnCommitsCard

/-- THE TIED CARD OF 'laws.FnBacks'. -/
def fnBacksCard : Claim7 := { stood := { row := fnBacksRow, standIns := [], harness := (true, "4985d3145efca969304f80605f9e17a2539d33dd01523dad9873ac43e07d7c5e"), looks := true }, kinds := [], alts := [], laidByText := true, laidKinds := [.handle], laidTests := true, laidLooks := .later }
def FnBacksCardSaid : Prop := Claim7.holds Tryz.pinned (.plain (OpenSpec.ofChange fnBacksSpec)) fnBacksCard

/-- THE SECOND FORM's CARD OF 'laws.FnPrewrites'. -/
def fnPrewritesUptoCard : Claim7 := { stood := { row := fnPrewritesUptoRow, standIns := [], harness := (true, "4985d3145efca969304f80605f9e17a2539d33dd01523dad9873ac43e07d7c5e"), looks := true }, kinds := [], alts := [], laidByText := true, laidKinds := [.handle], laidTests := true, laidLooks := .later }
def FnPrewritesUptoCardSaid : Prop := Claim7.holds Tryz.pinned (.plain (OpenSpec.upto fnPrewritesSpec)) fnPrewritesUptoCard

/-- THE SECOND FORM's CARD OF 'laws.FnCommits'. -/
def fnCommitsUptoCard : Claim7 := { stood := { row := fnCommitsUptoRow, standIns := [], harness := (true, "4985d3145efca969304f80605f9e17a2539d33dd01523dad9873ac43e07d7c5e"), looks := true }, kinds := [], alts := [], laidByText := true, laidKinds := [.handle], laidTests := true, laidLooks := .later }
def FnCommitsUptoCardSaid : Prop := Claim7.holds Tryz.pinned (.plain (OpenSpec.upto fnCommitsSpec)) fnCommitsUptoCard

/-- THE SECOND FORM's CARD OF 'laws.FnBacks'. -/
def fnBacksUptoCard : Claim7 := { stood := { row := fnBacksUptoRow, standIns := [], harness := (true, "4985d3145efca969304f80605f9e17a2539d33dd01523dad9873ac43e07d7c5e"), looks := true }, kinds := [], alts := [], laidByText := true, laidKinds := [.handle], laidTests := true, laidLooks := .later }
def FnBacksUptoCardSaid : Prop := Claim7.holds Tryz.pinned (.plain (OpenSpec.upto fnBacksSpec)) fnBacksUptoCard
end Rows
end Go.Proofs.YtiadbiiiikhfaaaGreatDoor
