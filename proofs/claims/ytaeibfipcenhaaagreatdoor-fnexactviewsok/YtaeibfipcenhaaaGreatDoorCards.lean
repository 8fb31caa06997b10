/-
  DERIVED. GIVEN WITH THE SEED: THE CARDS: each row of YtaeibfipcenhaaaGreatDoorRows.lean that lists a variable, with what it lists TIED to the program's text (the seventh form; the later family's looks); each row that meets fmt, with fmt's text TOLD by the authors' own Lean function (tested against real Go, not proved from fmt's source: count such statements apart). THE CARD IS WHAT COUNTS. Prove the row's statement (the work); the ties are given (YtaeibfipcenhaaaGreatDoorTie.lean); close each card by the builder's one call (the guide's Derived/Test/ToyasCard.lean, 'card_holds'). Laid BY PROGRAM, IN A SANDBOX (cutbox-door.mjs). By AI agents, Wed Nov 11 2026. No macro, syntax, notation, axiom, sorry.
-/
import Derived.Test.YtaeibfipcenhaaaGreatDoorRows
import GoSem.ClaimSeven
namespace Go.Proofs.YtaeibfipcenhaaaGreatDoor
namespace Rows

/-- THE TIED CARD OF 'laws.FnExactViewsOk'. -/
def fnExactViewsOkCard : Claim7 := { stood := { row := fnExactViewsOkRow, standIns := [], harness := (true, "2360176ef469512bff2a6e5e7e5b8593ef9c68dac2a0743f7750297b03923297"), looks := true }, kinds := [], alts := [], laidByText := true, laidKinds := [.handle], laidTests := true, laidLooks := .later }
def FnExactViewsOkCardSaid : Prop := Claim7.holds Tryz.pinned (.plain (OpenSpec.ofChange fnExactViewsOkSpec)) fnExactViewsOkCard

/-- THE SECOND FORM's CARD OF 'laws.FnExactViewsOk'. -/
def fnExactViewsOkUptoCard : Claim7 := { stood := { row := fnExactViewsOkUptoRow, standIns := [], harness := (true, "2360176ef469512bff2a6e5e7e5b8593ef9c68dac2a0743f7750297b03923297"), looks := true }, kinds := [], alts := [], laidByText := true, laidKinds := [.handle], laidTests := true, laidLooks := .later }
def FnExactViewsOkUptoCardSaid : Prop := Claim7.holds Tryz.pinned (.plain (OpenSpec.upto fnExactViewsOkSpec)) fnExactViewsOkUptoCard
end Rows
end Go.Proofs.YtaeibfipcenhaaaGreatDoor
