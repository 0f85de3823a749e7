/-
  DERIVED. GIVEN WITH THE SEED: THE CARDS: each row of YtglcaejddckleaaGreatDoorRows.lean that lists a variable, with what it lists TIED to the program's text (the seventh form; the later family's looks); each row that meets fmt, with fmt's text TOLD by the authors' own Lean function (tested against real Go, not proved from fmt's source: count such statements apart). THE CARD IS WHAT COUNTS. Prove the row's statement (the work); the ties are given (YtglcaejddckleaaGreatDoorTie.lean); close each card by the builder's one call (the guide's Derived/Test/ToyasCard.lean, 'card_holds'). Laid BY PROGRAM, IN A SANDBOX (cutbox-door.mjs). By AI agents, Wed Nov 11 2026. No macro, syntax, notation, axiom, sorry.
-/
import Derived.Test.YtglcaejddckleaaGreatDoorRows
import GoSem.ClaimSeven
namespace Go.Proofs.YtglcaejddckleaaGreatDoor
namespace Rows

/-- THE TIED CARD OF 'laws.FnDict'. -/
def fnDictCard : Claim7 := { stood := { row := fnDictRow, standIns := [], harness := (true, "14db42713e426a744c929d017deabcb3af0a8a5aae3d4e79e825d7a4d64e39ec"), looks := false }, kinds := [], alts := [], laidByText := true, laidKinds := [.data, .data, .data], laidTests := true, laidLooks := .later }
def FnDictCardSaid : Prop := Claim7.holds Tryz.pinned (.plain (OpenSpec.ofChange fnDictSpec)) fnDictCard

/-- THE TIED CARD OF 'laws.FnThrough'. -/
def fnThroughCard : Claim7 := { stood := { row := fnThroughRow, standIns := [], harness := (true, "14db42713e426a744c929d017deabcb3af0a8a5aae3d4e79e825d7a4d64e39ec"), looks := false }, kinds := [], alts := [], laidByText := true, laidKinds := [.data, .data, .data], laidTests := true, laidLooks := .later }
def FnThroughCardSaid : Prop := Claim7.holds Tryz.pinned (.plain (OpenSpec.ofChange fnThroughSpec)) fnThroughCard

/-- THE TIED CARD OF 'laws.FnExactDictOk'. -/
def fnExactDictOkCard : Claim7 := { stood := { row := fnExactDictOkRow, standIns := [], harness := (true, "14db42713e426a744c929d017deabcb3af0a8a5aae3d4e79e825d7a4d64e39ec"), looks := false }, kinds := [], alts := [], laidByText := true, laidKinds := [.data, .data, .data], laidTests := true, laidLooks := .later }
def FnExactDictOkCardSaid : Prop := Claim7.holds Tryz.pinned (.plain (OpenSpec.ofChange fnExactDictOkSpec)) fnExactDictOkCard

/-- THE TIED CARD OF 'laws.FnExactDictGet'. -/
def fnExactDictGetCard : Claim7 := { stood := { row := fnExactDictGetRow, standIns := [], harness := (true, "14db42713e426a744c929d017deabcb3af0a8a5aae3d4e79e825d7a4d64e39ec"), looks := false }, kinds := [], alts := [], laidByText := true, laidKinds := [.data, .data, .data], laidTests := true, laidLooks := .later }
def FnExactDictGetCardSaid : Prop := Claim7.holds Tryz.pinned (.plain (OpenSpec.ofChange fnExactDictGetSpec)) fnExactDictGetCard

/-- THE TIED CARD OF 'laws.FnExactDictPut'. -/
def fnExactDictPutCard : Claim7 := { stood := { row := fnExactDictPutRow, standIns := [], harness := (true, "14db42713e426a744c929d017deabcb3af0a8a5aae3d4e79e825d7a4d64e39ec"), looks := false }, kinds := [], alts := [], laidByText := true, laidKinds := [.data, .data, .data], laidTests := true, laidLooks := .later }
def FnExactDictPutCardSaid : Prop := Claim7.holds Tryz.pinned (.plain (OpenSpec.ofChange fnExactDictPutSpec)) fnExactDictPutCard

/-- THE TIED CARD OF 'laws.FnExactDictAfter'. -/
def fnExactDictAfterCard : Claim7 := { stood := { row := fnExactDictAfterRow, standIns := [], harness := (true, "14db42713e426a744c929d017deabcb3af0a8a5aae3d4e79e825d7a4d64e39ec"), looks := false }, kinds := [], alts := [], laidByText := true, laidKinds := [.data, .data, .data], laidTests := true, laidLooks := .later }
def FnExactDictAfterCardSaid : Prop := Claim7.holds Tryz.pinned (.plain (OpenSpec.ofChange fnExactDictAfterSpec)) fnExactDictAfterCard

/-- THE TIED CARD OF 'laws.FnExactDictLen'. -/
def fnExactDictLenCard : Claim7 := { stood := { row := fnExactDictLenRow, standIns := [], harness := (true, "14db42713e426a744c929d017deabcb3af0a8a5aae3d4e79e825d7a4d64e39ec"), looks := false }, kinds := [], alts := [], laidByText := true, laidKinds := [.data, .data, .data], laidTests := true, laidLooks := .later }
def FnExactDictLenCardSaid : Prop := Claim7.holds Tryz.pinned (.plain (OpenSpec.ofChange fnExactDictLenSpec)) fnExactDictLenCard

/-- THE TIED CARD OF 'laws.FnExactDictPairs'. -/
def fnExactDictPairsCard : Claim7 := { stood := { row := fnExactDictPairsRow, standIns := [], harness := (true, "14db42713e426a744c929d017deabcb3af0a8a5aae3d4e79e825d7a4d64e39ec"), looks := false }, kinds := [], alts := [], laidByText := true, laidKinds := [.data, .data, .data], laidTests := true, laidLooks := .later }
def FnExactDictPairsCardSaid : Prop := Claim7.holds Tryz.pinned (.plain (OpenSpec.ofChange fnExactDictPairsSpec)) fnExactDictPairsCard

/-- THE SECOND FORM's CARD OF 'laws.FnDict'. -/
def fnDictUptoCard : Claim7 := { stood := { row := fnDictUptoRow, standIns := [], harness := (true, "14db42713e426a744c929d017deabcb3af0a8a5aae3d4e79e825d7a4d64e39ec"), looks := false }, kinds := [], alts := [], laidByText := true, laidKinds := [.data, .data, .data], laidTests := true, laidLooks := .later }
def FnDictUptoCardSaid : Prop := Claim7.holds Tryz.pinned (.plain (OpenSpec.upto fnDictSpec)) fnDictUptoCard

/-- THE SECOND FORM's CARD OF 'laws.FnThrough'. -/
def fnThroughUptoCard : Claim7 := { stood := { row := fnThroughUptoRow, standIns := [], harness := (true, "14db42713e426a744c929d017deabcb3af0a8a5aae3d4e79e825d7a4d64e39ec"), looks := false }, kinds := [], alts := [], laidByText := true, laidKinds := [.data, .data, .data], laidTests := true, laidLooks := .later }
def FnThroughUptoCardSaid : Prop := Claim7.holds Tryz.pinned (.plain (OpenSpec.upto fnThroughSpec)) fnThroughUptoCard

/-- THE SECOND FORM's CARD OF 'laws.FnExactDictOk'. -/
def fnExactDictOkUptoCard : Claim7 := { stood := { row := fnExactDictOkUptoRow, standIns := [], harness := (true, "14db42713e426a744c929d017deabcb3af0a8a5aae3d4e79e825d7a4d64e39ec"), looks := false }, kinds := [], alts := [], laidByText := true, laidKinds := [.data, .data, .data], laidTests := true, laidLooks := .later }
def FnExactDictOkUptoCardSaid : Prop := Claim7.holds Tryz.pinned (.plain (OpenSpec.upto fnExactDictOkSpec)) fnExactDictOkUptoCard

/-- THE SECOND FORM's CARD OF 'laws.FnExactDictGet'. -/
def fnExactDictGetUptoCard : Claim7 := { stood := { row := fnExactDictGetUptoRow, standIns := [], harness := (true, "14db42713e426a744c929d017deabcb3af0a8a5aae3d4e79e825d7a4d64e39ec"), looks := false }, kinds := [], alts := [], laidByText := true, laidKinds := [.data, .data, .data], laidTests := true, laidLooks := .later }
def FnExactDictGetUptoCardSaid : Prop := Claim7.holds Tryz.pinned (.plain (OpenSpec.upto fnExactDictGetSpec)) fnExactDictGetUptoCard

/-- THE SECOND FORM's CARD OF 'laws.FnExactDictPut'. -/
def fnExactDictPutUptoCard : Claim7 := { stood := { row := fnExactDictPutUptoRow, standIns := [], harness := (true, "14db42713e426a744c929d017deabcb3af0a8a5aae3d4e79e825d7a4d64e39ec"), looks := false }, kinds := [], alts := [], laidByText := true, laidKinds := [.data, .data, .data], laidTests := true, laidLooks := .later }
def FnExactDictPutUptoCardSaid : Prop := Claim7.holds Tryz.pinned (.plain (OpenSpec.upto fnExactDictPutSpec)) fnExactDictPutUptoCard

/-- THE SECOND FORM's CARD OF 'laws.FnExactDictAfter'. -/
def fnExactDictAfterUptoCard : Claim7 := { stood := { row := fnExactDictAfterUptoRow, standIns := [], harness := (true, "14db42713e426a744c929d017deabcb3af0a8a5aae3d4e79e825d7a4d64e39ec"), looks := false }, kinds := [], alts := [], laidByText := true, laidKinds := [.data, .data, .data], laidTests := true, laidLooks := .later }
def FnExactDictAfterUptoCardSaid : Prop := Claim7.holds Tryz.pinned (.plain (OpenSpec.upto fnExactDictAfterSpec)) fnExactDictAfterUptoCard

/-- THE SECOND FORM's CARD OF 'laws.FnExactDictLen'. -/
def fnExactDictLenUptoCard : Claim7 := { stood := { row := fnExactDictLenUptoRow, standIns := [], harness := (true, "14db42713e426a744c929d017deabcb3af0a8a5aae3d4e79e825d7a4d64e39ec"), looks := false }, kinds := [], alts := [], laidByText := true, laidKinds := [.data, .data, .data], laidTests := true, laidLooks := .later }
def FnExactDictLenUptoCardSaid : Prop := Claim7.holds Tryz.pinned (.plain (OpenSpec.upto fnExactDictLenSpec)) fnExactDictLenUptoCard

/-- THE SECOND FORM's CARD OF 'laws.FnExactDictPairs'. -/
def fnExactDictPairsUptoCard : Claim7 := { stood := { row := fnExactDictPairsUptoRow, standIns := [], harness := (true, "14db42713e426a744c929d017deabcb3af0a8a5aae3d4e79e825d7a4d64e39ec"), looks := false }, kinds := [], alts := [], laidByText := true, laidKinds := [.data, .data, .data], laidTests := true, laidLooks := .later }
def FnExactDictPairsUptoCardSaid : Prop := Claim7.holds Tryz.pinned (.plain (OpenSpec.upto fnExactDictPairsSpec)) fnExactDictPairsUptoCard
end Rows
end Go.Proofs.YtglcaejddckleaaGreatDoor
