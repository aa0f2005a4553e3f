/-
  DERIVED. GIVEN WITH THE SEED: THE CARDS: each row of YtjhloobjbbdmcaiDoorRows.lean that lists a variable, with what it lists TIED to the program's text (the seventh form; the later family's looks); each row that meets fmt, with fmt's text TOLD by the authors' own Lean function (tested against real Go, not proved from fmt's source: count such statements apart). THE CARD IS WHAT COUNTS. Prove the row's statement (the work); the ties are given (YtjhloobjbbdmcaiDoorTie.lean); close each card by the builder's one call (the guide's Derived/Test/ToyasCard.lean, 'card_holds'). Laid BY PROGRAM, IN A SANDBOX (cutbox-door.mjs). By AI agents, Wed Nov 11 2026. No macro, syntax, notation, axiom, sorry.
-/
import Derived.Test.YtjhloobjbbdmcaiDoorRows
import GoSem.ClaimSeven
namespace Go.Proofs.YtjhloobjbbdmcaiDoor
namespace Rows

/-- THE TIED CARD OF 'laws.FnExactGetAt'. -/
def fnExactGetAtCard : Claim7 := { stood := { row := fnExactGetAtRow, standIns := [], harness := (true, "04312603475de1bbe1ca12f10f2fe5e1bef95559a4f51ba2a0c54d742fda78d0"), looks := true }, kinds := [], alts := [], laidByText := true, laidKinds := [.handle], laidTests := true, laidLooks := .later }
def FnExactGetAtCardSaid : Prop := Claim7.holds Tryd.pinned (.plain (OpenSpec.ofChange fnExactGetAtSpec)) fnExactGetAtCard

/-- THE SECOND FORM's CARD OF 'laws.FnExactGetAt'. -/
def fnExactGetAtUptoCard : Claim7 := { stood := { row := fnExactGetAtUptoRow, standIns := [], harness := (true, "04312603475de1bbe1ca12f10f2fe5e1bef95559a4f51ba2a0c54d742fda78d0"), looks := true }, kinds := [], alts := [], laidByText := true, laidKinds := [.handle], laidTests := true, laidLooks := .later }
def FnExactGetAtUptoCardSaid : Prop := Claim7.holds Tryd.pinned (.plain (OpenSpec.upto fnExactGetAtSpec)) fnExactGetAtUptoCard
end Rows
end Go.Proofs.YtjhloobjbbdmcaiDoor
