/-
  DERIVED. GIVEN WITH THE SEED: THE CARDS: each row of YtkbjlnnincknaaaGreatDoorRows.lean that lists a variable, with what it lists TIED to the program's text (the seventh form; the later family's looks); each row that meets fmt, with fmt's text TOLD by the authors' own Lean function (tested against real Go, not proved from fmt's source: count such statements apart). THE CARD IS WHAT COUNTS. Prove the row's statement (the work); the ties are given (YtkbjlnnincknaaaGreatDoorTie.lean); close each card by the builder's one call (the guide's Derived/Test/ToyasCard.lean, 'card_holds'). Laid BY PROGRAM, IN A SANDBOX (cutbox-door.mjs). By AI agents, Wed Nov 11 2026. No macro, syntax, notation, axiom, sorry.
-/
import Derived.Test.YtkbjlnnincknaaaGreatDoorRows
import GoSem.ClaimSeven
namespace Go.Proofs.YtkbjlnnincknaaaGreatDoor
namespace Rows

/-- THE TIED CARD OF 'laws.FnExactPrewrite'. -/
def fnExactPrewriteCard : Claim7 := { stood := { row := fnExactPrewriteRow, standIns := [], harness := (true, "3c453b1fe26e0481e9b96b5709fa89c5b74b832c9f93459ff5b729daeef136f8"), looks := true }, kinds := [], alts := [], laidByText := true, laidKinds := [.handle], laidTests := true, laidLooks := .later }
def FnExactPrewriteCardSaid : Prop := Claim7.holds Tryz.pinned (.plain (OpenSpec.ofChange fnExactPrewriteSpec)) fnExactPrewriteCard

/-- THE SECOND FORM's CARD OF 'laws.FnExactPrewrite'. -/
def fnExactPrewriteUptoCard : Claim7 := { stood := { row := fnExactPrewriteUptoRow, standIns := [], harness := (true, "3c453b1fe26e0481e9b96b5709fa89c5b74b832c9f93459ff5b729daeef136f8"), looks := true }, kinds := [], alts := [], laidByText := true, laidKinds := [.handle], laidTests := true, laidLooks := .later }
def FnExactPrewriteUptoCardSaid : Prop := Claim7.holds Tryz.pinned (.plain (OpenSpec.upto fnExactPrewriteSpec)) fnExactPrewriteUptoCard
end Rows
end Go.Proofs.YtkbjlnnincknaaaGreatDoor
