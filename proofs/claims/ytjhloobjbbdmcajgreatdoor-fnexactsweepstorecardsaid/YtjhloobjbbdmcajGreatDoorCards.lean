/-
  DERIVED. GIVEN WITH THE SEED: THE CARDS: each row of YtjhloobjbbdmcajGreatDoorRows.lean that lists a variable, with what it lists TIED to the program's text (the seventh form; the later family's looks); each row that meets fmt, with fmt's text TOLD by the authors' own Lean function (tested against real Go, not proved from fmt's source: count such statements apart). THE CARD IS WHAT COUNTS. Prove the row's statement (the work); the ties are given (YtjhloobjbbdmcajGreatDoorTie.lean); close each card by the builder's one call (the guide's Derived/Test/ToyasCard.lean, 'card_holds'). Laid BY PROGRAM, IN A SANDBOX (cutbox-door.mjs). By AI agents, Wed Nov 11 2026. No macro, syntax, notation, axiom, sorry.
-/
import Derived.Test.YtjhloobjbbdmcajGreatDoorRows
import GoSem.ClaimSeven
namespace Go.Proofs.YtjhloobjbbdmcajGreatDoor
namespace Rows

/-- THE TIED CARD OF 'laws.FnExactSweepStore'. -/
def fnExactSweepStoreCard : Claim7 := { stood := { row := fnExactSweepStoreRow, standIns := [], harness := (true, "f2716a9be47830d2c1dff56a117ba3451a53bf37c214a042def1c8fded74aaf8"), looks := true }, kinds := [], alts := [], laidByText := true, laidKinds := [.handle], laidTests := true, laidLooks := .later }
def FnExactSweepStoreCardSaid : Prop := Claim7.holds Tryz.pinned (.plain (OpenSpec.ofChange fnExactSweepStoreSpec)) fnExactSweepStoreCard

/-- THE SECOND FORM's CARD OF 'laws.FnExactSweepStore'. -/
def fnExactSweepStoreUptoCard : Claim7 := { stood := { row := fnExactSweepStoreUptoRow, standIns := [], harness := (true, "f2716a9be47830d2c1dff56a117ba3451a53bf37c214a042def1c8fded74aaf8"), looks := true }, kinds := [], alts := [], laidByText := true, laidKinds := [.handle], laidTests := true, laidLooks := .later }
def FnExactSweepStoreUptoCardSaid : Prop := Claim7.holds Tryz.pinned (.plain (OpenSpec.upto fnExactSweepStoreSpec)) fnExactSweepStoreUptoCard
end Rows
end Go.Proofs.YtjhloobjbbdmcajGreatDoor
