/-
  DERIVED. GIVEN WITH THE SEED: THE CARDS: each row of YtjhhmnjpojnoiaaGreatDoorRows.lean that lists a variable, with what it lists TIED to the program's text (the seventh form; the later family's looks); each row that meets fmt, with fmt's text TOLD by the authors' own Lean function (tested against real Go, not proved from fmt's source: count such statements apart). THE CARD IS WHAT COUNTS. Prove the row's statement (the work); the ties are given (YtjhhmnjpojnoiaaGreatDoorTie.lean); close each card by the builder's one call (the guide's Derived/Test/ToyasCard.lean, 'card_holds'). Laid BY PROGRAM, IN A SANDBOX (cutbox-door.mjs). By AI agents, Wed Nov 11 2026. No macro, syntax, notation, axiom, sorry.
-/
import Derived.Test.YtjhhmnjpojnoiaaGreatDoorRows
import GoSem.ClaimSeven
namespace Go.Proofs.YtjhhmnjpojnoiaaGreatDoor
namespace Rows

/-- THE TIED CARD OF 'laws.FnExactWithViews'. -/
def fnExactWithViewsCard : Claim7 := { stood := { row := fnExactWithViewsRow, standIns := [], harness := (true, "5be0ae6dfd8bd33576a40537182697f7b47d66e56410d8d2f2f27365a7c4799d"), looks := true }, kinds := [], alts := [], laidByText := true, laidKinds := [.handle], laidTests := true, laidLooks := .later }
def FnExactWithViewsCardSaid : Prop := Claim7.holds Tryz.pinned (.plain (OpenSpec.ofChange fnExactWithViewsSpec)) fnExactWithViewsCard

/-- THE SECOND FORM's CARD OF 'laws.FnExactWithViews'. -/
def fnExactWithViewsUptoCard : Claim7 := { stood := { row := fnExactWithViewsUptoRow, standIns := [], harness := (true, "5be0ae6dfd8bd33576a40537182697f7b47d66e56410d8d2f2f27365a7c4799d"), looks := true }, kinds := [], alts := [], laidByText := true, laidKinds := [.handle], laidTests := true, laidLooks := .later }
def FnExactWithViewsUptoCardSaid : Prop := Claim7.holds Tryz.pinned (.plain (OpenSpec.upto fnExactWithViewsSpec)) fnExactWithViewsUptoCard
end Rows
end Go.Proofs.YtjhhmnjpojnoiaaGreatDoor
