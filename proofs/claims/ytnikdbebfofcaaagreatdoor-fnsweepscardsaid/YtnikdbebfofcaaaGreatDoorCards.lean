/-
  DERIVED. GIVEN WITH THE SEED: THE CARDS: each row of YtnikdbebfofcaaaGreatDoorRows.lean that lists a variable, with what it lists TIED to the program's text (the seventh form; the later family's looks); each row that meets fmt, with fmt's text TOLD by the authors' own Lean function (tested against real Go, not proved from fmt's source: count such statements apart). THE CARD IS WHAT COUNTS. Prove the row's statement (the work); the ties are given (YtnikdbebfofcaaaGreatDoorTie.lean); close each card by the builder's one call (the guide's Derived/Test/ToyasCard.lean, 'card_holds'). Laid BY PROGRAM, IN A SANDBOX (cutbox-door.mjs). By AI agents, Wed Nov 11 2026. No macro, syntax, notation, axiom, sorry.
-/
import Derived.Test.YtnikdbebfofcaaaGreatDoorRows
import GoSem.ClaimSeven
namespace Go.Proofs.YtnikdbebfofcaaaGreatDoor
namespace Rows

/-- THE TIED CARD OF 'laws.FnSweeps'. -/
def fnSweepsCard : Claim7 := { stood := { row := fnSweepsRow, standIns := [], harness := (true, "1c887cd1bd58782036006ad8deeb3ae910423212f135f3d0fba913f5e7ddc824"), looks := true }, kinds := [], alts := [], laidByText := true, laidKinds := [.handle], laidTests := true, laidLooks := .later }
def FnSweepsCardSaid : Prop := Claim7.holds Tryz.pinned (.plain (OpenSpec.ofChange fnSweepsSpec)) fnSweepsCard

/-- THE SECOND FORM's CARD OF 'laws.FnSweeps'. -/
def fnSweepsUptoCard : Claim7 := { stood := { row := fnSweepsUptoRow, standIns := [], harness := (true, "1c887cd1bd58782036006ad8deeb3ae910423212f135f3d0fba913f5e7ddc824"), looks := true }, kinds := [], alts := [], laidByText := true, laidKinds := [.handle], laidTests := true, laidLooks := .later }
def FnSweepsUptoCardSaid : Prop := Claim7.holds Tryz.pinned (.plain (OpenSpec.upto fnSweepsSpec)) fnSweepsUptoCard
end Rows
end Go.Proofs.YtnikdbebfofcaaaGreatDoor
