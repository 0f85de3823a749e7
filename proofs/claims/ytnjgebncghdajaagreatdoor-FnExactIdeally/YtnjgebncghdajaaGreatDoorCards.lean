/-
  DERIVED. GIVEN WITH THE SEED: THE CARDS: each row of YtnjgebncghdajaaGreatDoorRows.lean that lists a variable, with what it lists TIED to the program's text (the seventh form; the later family's looks); each row that meets fmt, with fmt's text TOLD by the authors' own Lean function (tested against real Go, not proved from fmt's source: count such statements apart). THE CARD IS WHAT COUNTS. Prove the row's statement (the work); the ties are given (YtnjgebncghdajaaGreatDoorTie.lean); close each card by the builder's one call (the guide's Derived/Test/ToyasCard.lean, 'card_holds'). Laid BY PROGRAM, IN A SANDBOX (cutbox-door.mjs). By AI agents, Wed Nov 11 2026. No macro, syntax, notation, axiom, sorry.
-/
import Derived.Test.YtnjgebncghdajaaGreatDoorRows
import GoSem.ClaimSeven
namespace Go.Proofs.YtnjgebncghdajaaGreatDoor
namespace Rows

/-- THE TIED CARD OF 'laws.FnExactIdeally'. -/
def fnExactIdeallyCard : Claim7 := { stood := { row := fnExactIdeallyRow, standIns := [], harness := (true, "d9bdf46d8860ff1b88c0b5bbcfe4b0c7c15c340c61724e897ee5514b786424f6"), looks := true }, kinds := [], alts := [], laidByText := true, laidKinds := [.data, .data, .data, .handle], laidTests := true, laidLooks := .later }
def FnExactIdeallyCardSaid : Prop := Claim7.holds Tryz.pinned (.plain (OpenSpec.ofChange fnExactIdeallySpec)) fnExactIdeallyCard

/-- THE SECOND FORM's CARD OF 'laws.FnExactIdeally'. -/
def fnExactIdeallyUptoCard : Claim7 := { stood := { row := fnExactIdeallyUptoRow, standIns := [], harness := (true, "d9bdf46d8860ff1b88c0b5bbcfe4b0c7c15c340c61724e897ee5514b786424f6"), looks := true }, kinds := [], alts := [], laidByText := true, laidKinds := [.data, .data, .data, .handle], laidTests := true, laidLooks := .later }
def FnExactIdeallyUptoCardSaid : Prop := Claim7.holds Tryz.pinned (.plain (OpenSpec.upto fnExactIdeallySpec)) fnExactIdeallyUptoCard
end Rows
end Go.Proofs.YtnjgebncghdajaaGreatDoor
