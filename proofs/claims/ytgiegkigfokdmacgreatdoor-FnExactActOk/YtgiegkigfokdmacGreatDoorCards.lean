/-
  DERIVED. GIVEN WITH THE SEED: THE CARDS: each row of YtgiegkigfokdmacGreatDoorRows.lean that lists a variable, with what it lists TIED to the program's text (the seventh form; the later family's looks); each row that meets fmt, with fmt's text TOLD by the authors' own Lean function (tested against real Go, not proved from fmt's source: count such statements apart). THE CARD IS WHAT COUNTS. Prove the row's statement (the work); the ties are given (YtgiegkigfokdmacGreatDoorTie.lean); close each card by the builder's one call (the guide's Derived/Test/ToyasCard.lean, 'card_holds'). Laid BY PROGRAM, IN A SANDBOX (cutbox-door.mjs). By AI agents, Wed Nov 11 2026. No macro, syntax, notation, axiom, sorry.
-/
import Derived.Test.YtgiegkigfokdmacGreatDoorRows
import GoSem.ClaimSeven
namespace Go.Proofs.YtgiegkigfokdmacGreatDoor
namespace Rows

/-- THE TIED CARD OF 'laws.FnExactPairsOf'. -/
def fnExactPairsOfCard : Claim7 := { stood := { row := fnExactPairsOfRow, standIns := [], harness := (true, "9f55e9f339a956fc5a9eae7b11068c02fd6cdaf51c44d825d9a46bb494bb6668"), looks := true }, kinds := [], alts := [], laidByText := true, laidKinds := [.data, .data, .data], laidTests := true, laidLooks := .later }
def FnExactPairsOfCardSaid : Prop := Claim7.holds Tryz.pinned (.plain (OpenSpec.ofChange fnExactPairsOfSpec)) fnExactPairsOfCard

/-- THE TIED CARD OF 'laws.FnExactActOk'. -/
def fnExactActOkCard : Claim7 := { stood := { row := fnExactActOkRow, standIns := [], harness := (true, "9f55e9f339a956fc5a9eae7b11068c02fd6cdaf51c44d825d9a46bb494bb6668"), looks := true }, kinds := [], alts := [], laidByText := true, laidKinds := [.data, .data, .data], laidTests := true, laidLooks := .later }
def FnExactActOkCardSaid : Prop := Claim7.holds Tryz.pinned (.plain (OpenSpec.ofChange fnExactActOkSpec)) fnExactActOkCard

/-- THE TIED CARD OF 'laws.FnExactDo'. -/
def fnExactDoCard : Claim7 := { stood := { row := fnExactDoRow, standIns := [], harness := (true, "9f55e9f339a956fc5a9eae7b11068c02fd6cdaf51c44d825d9a46bb494bb6668"), looks := true }, kinds := [], alts := [], laidByText := true, laidKinds := [.data, .data, .data, .handle], laidTests := true, laidLooks := .later }
def FnExactDoCardSaid : Prop := Claim7.holds Tryz.pinned (.plain (OpenSpec.ofChange fnExactDoSpec)) fnExactDoCard

/-- THE TIED CARD OF 'laws.FnExactPlay'. -/
def fnExactPlayCard : Claim7 := { stood := { row := fnExactPlayRow, standIns := [], harness := (true, "9f55e9f339a956fc5a9eae7b11068c02fd6cdaf51c44d825d9a46bb494bb6668"), looks := true }, kinds := [], alts := [], laidByText := true, laidKinds := [.data, .data, .data, .handle], laidTests := true, laidLooks := .later }
def FnExactPlayCardSaid : Prop := Claim7.holds Tryz.pinned (.plain (OpenSpec.ofChange fnExactPlaySpec)) fnExactPlayCard

/-- THE TIED CARD OF 'laws.FnExactIdeally'. -/
def fnExactIdeallyCard : Claim7 := { stood := { row := fnExactIdeallyRow, standIns := [], harness := (true, "9f55e9f339a956fc5a9eae7b11068c02fd6cdaf51c44d825d9a46bb494bb6668"), looks := true }, kinds := [], alts := [], laidByText := true, laidKinds := [.data, .data, .data, .handle], laidTests := true, laidLooks := .later }
def FnExactIdeallyCardSaid : Prop := Claim7.holds Tryz.pinned (.plain (OpenSpec.ofChange fnExactIdeallySpec)) fnExactIdeallyCard

/-- THE SECOND FORM's CARD OF 'laws.FnExactPairsOf'. -/
def fnExactPairsOfUptoCard : Claim7 := { stood := { row := fnExactPairsOfUptoRow, standIns := [], harness := (true, "9f55e9f339a956fc5a9eae7b11068c02fd6cdaf51c44d825d9a46bb494bb6668"), looks := true }, kinds := [], alts := [], laidByText := true, laidKinds := [.data, .data, .data], laidTests := true, laidLooks := .later }
def FnExactPairsOfUptoCardSaid : Prop := Claim7.holds Tryz.pinned (.plain (OpenSpec.upto fnExactPairsOfSpec)) fnExactPairsOfUptoCard

/-- THE SECOND FORM's CARD OF 'laws.FnExactActOk'. -/
def fnExactActOkUptoCard : Claim7 := { stood := { row := fnExactActOkUptoRow, standIns := [], harness := (true, "9f55e9f339a956fc5a9eae7b11068c02fd6cdaf51c44d825d9a46bb494bb6668"), looks := true }, kinds := [], alts := [], laidByText := true, laidKinds := [.data, .data, .data], laidTests := true, laidLooks := .later }
def FnExactActOkUptoCardSaid : Prop := Claim7.holds Tryz.pinned (.plain (OpenSpec.upto fnExactActOkSpec)) fnExactActOkUptoCard

/-- THE SECOND FORM's CARD OF 'laws.FnExactDo'. -/
def fnExactDoUptoCard : Claim7 := { stood := { row := fnExactDoUptoRow, standIns := [], harness := (true, "9f55e9f339a956fc5a9eae7b11068c02fd6cdaf51c44d825d9a46bb494bb6668"), looks := true }, kinds := [], alts := [], laidByText := true, laidKinds := [.data, .data, .data, .handle], laidTests := true, laidLooks := .later }
def FnExactDoUptoCardSaid : Prop := Claim7.holds Tryz.pinned (.plain (OpenSpec.upto fnExactDoSpec)) fnExactDoUptoCard

/-- THE SECOND FORM's CARD OF 'laws.FnExactPlay'. -/
def fnExactPlayUptoCard : Claim7 := { stood := { row := fnExactPlayUptoRow, standIns := [], harness := (true, "9f55e9f339a956fc5a9eae7b11068c02fd6cdaf51c44d825d9a46bb494bb6668"), looks := true }, kinds := [], alts := [], laidByText := true, laidKinds := [.data, .data, .data, .handle], laidTests := true, laidLooks := .later }
def FnExactPlayUptoCardSaid : Prop := Claim7.holds Tryz.pinned (.plain (OpenSpec.upto fnExactPlaySpec)) fnExactPlayUptoCard

/-- THE SECOND FORM's CARD OF 'laws.FnExactIdeally'. -/
def fnExactIdeallyUptoCard : Claim7 := { stood := { row := fnExactIdeallyUptoRow, standIns := [], harness := (true, "9f55e9f339a956fc5a9eae7b11068c02fd6cdaf51c44d825d9a46bb494bb6668"), looks := true }, kinds := [], alts := [], laidByText := true, laidKinds := [.data, .data, .data, .handle], laidTests := true, laidLooks := .later }
def FnExactIdeallyUptoCardSaid : Prop := Claim7.holds Tryz.pinned (.plain (OpenSpec.upto fnExactIdeallySpec)) fnExactIdeallyUptoCard
end Rows
end Go.Proofs.YtgiegkigfokdmacGreatDoor
