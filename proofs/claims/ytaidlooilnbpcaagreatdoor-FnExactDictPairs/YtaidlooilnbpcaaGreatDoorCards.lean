/-
  DERIVED. GIVEN WITH THE SEED: THE CARDS: each row of YtaidlooilnbpcaaGreatDoorRows.lean that lists a variable, with what it lists TIED to the program's text (the seventh form; the later family's looks); each row that meets fmt, with fmt's text TOLD by the authors' own Lean function (tested against real Go, not proved from fmt's source: count such statements apart). THE CARD IS WHAT COUNTS. Prove the row's statement (the work); the ties are given (YtaidlooilnbpcaaGreatDoorTie.lean); close each card by the builder's one call (the guide's Derived/Test/ToyasCard.lean, 'card_holds'). Laid BY PROGRAM, IN A SANDBOX (cutbox-door.mjs). By AI agents, Wed Nov 11 2026. No macro, syntax, notation, axiom, sorry.
-/
import Derived.Test.YtaidlooilnbpcaaGreatDoorRows
import GoSem.ClaimSeven
namespace Go.Proofs.YtaidlooilnbpcaaGreatDoor
namespace Rows

/-- THE TIED CARD OF 'laws.FnSound'. -/
def fnSoundCard : Claim7 := { stood := { row := fnSoundRow, standIns := [], harness := (true, "2e4ac5a59a47c3128a2a6fc6700c21c58eddf6997fd545698b5046582c9a6e1d"), looks := true }, kinds := [], alts := [], laidByText := true, laidKinds := [.data, .data, .data, .handle], laidTests := true, laidLooks := .later }
def FnSoundCardSaid : Prop := Claim7.holds Tryz.pinned (.plain (OpenSpec.ofChange fnSoundSpec)) fnSoundCard

/-- THE TIED CARD OF 'laws.FnDict'. -/
def fnDictCard : Claim7 := { stood := { row := fnDictRow, standIns := [], harness := (true, "2e4ac5a59a47c3128a2a6fc6700c21c58eddf6997fd545698b5046582c9a6e1d"), looks := true }, kinds := [], alts := [], laidByText := true, laidKinds := [.data, .data, .data], laidTests := true, laidLooks := .later }
def FnDictCardSaid : Prop := Claim7.holds Tryz.pinned (.plain (OpenSpec.ofChange fnDictSpec)) fnDictCard

/-- THE TIED CARD OF 'laws.FnThrough'. -/
def fnThroughCard : Claim7 := { stood := { row := fnThroughRow, standIns := [], harness := (true, "2e4ac5a59a47c3128a2a6fc6700c21c58eddf6997fd545698b5046582c9a6e1d"), looks := true }, kinds := [], alts := [], laidByText := true, laidKinds := [.data, .data, .data], laidTests := true, laidLooks := .later }
def FnThroughCardSaid : Prop := Claim7.holds Tryz.pinned (.plain (OpenSpec.ofChange fnThroughSpec)) fnThroughCard

/-- THE TIED CARD OF 'laws.FnExactDictGet'. -/
def fnExactDictGetCard : Claim7 := { stood := { row := fnExactDictGetRow, standIns := [], harness := (true, "2e4ac5a59a47c3128a2a6fc6700c21c58eddf6997fd545698b5046582c9a6e1d"), looks := true }, kinds := [], alts := [], laidByText := true, laidKinds := [.data, .data, .data], laidTests := true, laidLooks := .later }
def FnExactDictGetCardSaid : Prop := Claim7.holds Tryz.pinned (.plain (OpenSpec.ofChange fnExactDictGetSpec)) fnExactDictGetCard

/-- THE TIED CARD OF 'laws.FnExactDictPut'. -/
def fnExactDictPutCard : Claim7 := { stood := { row := fnExactDictPutRow, standIns := [], harness := (true, "2e4ac5a59a47c3128a2a6fc6700c21c58eddf6997fd545698b5046582c9a6e1d"), looks := true }, kinds := [], alts := [], laidByText := true, laidKinds := [.data, .data, .data], laidTests := true, laidLooks := .later }
def FnExactDictPutCardSaid : Prop := Claim7.holds Tryz.pinned (.plain (OpenSpec.ofChange fnExactDictPutSpec)) fnExactDictPutCard

/-- THE TIED CARD OF 'laws.FnExactDictPairs'. -/
def fnExactDictPairsCard : Claim7 := { stood := { row := fnExactDictPairsRow, standIns := [], harness := (true, "2e4ac5a59a47c3128a2a6fc6700c21c58eddf6997fd545698b5046582c9a6e1d"), looks := true }, kinds := [], alts := [], laidByText := true, laidKinds := [.data, .data, .data], laidTests := true, laidLooks := .later }
def FnExactDictPairsCardSaid : Prop := Claim7.holds Tryz.pinned (.plain (OpenSpec.ofChange fnExactDictPairsSpec)) fnExactDictPairsCard

/-- THE TIED CARD OF 'laws.FnExactPairsOf'. -/
def fnExactPairsOfCard : Claim7 := { stood := { row := fnExactPairsOfRow, standIns := [], harness := (true, "2e4ac5a59a47c3128a2a6fc6700c21c58eddf6997fd545698b5046582c9a6e1d"), looks := true }, kinds := [], alts := [], laidByText := true, laidKinds := [.data, .data, .data], laidTests := true, laidLooks := .later }
def FnExactPairsOfCardSaid : Prop := Claim7.holds Tryz.pinned (.plain (OpenSpec.ofChange fnExactPairsOfSpec)) fnExactPairsOfCard

/-- THE TIED CARD OF 'laws.FnExactDo'. -/
def fnExactDoCard : Claim7 := { stood := { row := fnExactDoRow, standIns := [], harness := (true, "2e4ac5a59a47c3128a2a6fc6700c21c58eddf6997fd545698b5046582c9a6e1d"), looks := true }, kinds := [], alts := [], laidByText := true, laidKinds := [.data, .data, .data, .handle], laidTests := true, laidLooks := .later }
def FnExactDoCardSaid : Prop := Claim7.holds Tryz.pinned (.plain (OpenSpec.ofChange fnExactDoSpec)) fnExactDoCard

/-- THE SECOND FORM's CARD OF 'laws.FnSound'. -/
def fnSoundUptoCard : Claim7 := { stood := { row := fnSoundUptoRow, standIns := [], harness := (true, "2e4ac5a59a47c3128a2a6fc6700c21c58eddf6997fd545698b5046582c9a6e1d"), looks := true }, kinds := [], alts := [], laidByText := true, laidKinds := [.data, .data, .data, .handle], laidTests := true, laidLooks := .later }
def FnSoundUptoCardSaid : Prop := Claim7.holds Tryz.pinned (.plain (OpenSpec.upto fnSoundSpec)) fnSoundUptoCard

/-- THE SECOND FORM's CARD OF 'laws.FnDict'. -/
def fnDictUptoCard : Claim7 := { stood := { row := fnDictUptoRow, standIns := [], harness := (true, "2e4ac5a59a47c3128a2a6fc6700c21c58eddf6997fd545698b5046582c9a6e1d"), looks := true }, kinds := [], alts := [], laidByText := true, laidKinds := [.data, .data, .data], laidTests := true, laidLooks := .later }
def FnDictUptoCardSaid : Prop := Claim7.holds Tryz.pinned (.plain (OpenSpec.upto fnDictSpec)) fnDictUptoCard

/-- THE SECOND FORM's CARD OF 'laws.FnThrough'. -/
def fnThroughUptoCard : Claim7 := { stood := { row := fnThroughUptoRow, standIns := [], harness := (true, "2e4ac5a59a47c3128a2a6fc6700c21c58eddf6997fd545698b5046582c9a6e1d"), looks := true }, kinds := [], alts := [], laidByText := true, laidKinds := [.data, .data, .data], laidTests := true, laidLooks := .later }
def FnThroughUptoCardSaid : Prop := Claim7.holds Tryz.pinned (.plain (OpenSpec.upto fnThroughSpec)) fnThroughUptoCard

/-- THE SECOND FORM's CARD OF 'laws.FnExactDictGet'. -/
def fnExactDictGetUptoCard : Claim7 := { stood := { row := fnExactDictGetUptoRow, standIns := [], harness := (true, "2e4ac5a59a47c3128a2a6fc6700c21c58eddf6997fd545698b5046582c9a6e1d"), looks := true }, kinds := [], alts := [], laidByText := true, laidKinds := [.data, .data, .data], laidTests := true, laidLooks := .later }
def FnExactDictGetUptoCardSaid : Prop := Claim7.holds Tryz.pinned (.plain (OpenSpec.upto fnExactDictGetSpec)) fnExactDictGetUptoCard

/-- THE SECOND FORM's CARD OF 'laws.FnExactDictPut'. -/
def fnExactDictPutUptoCard : Claim7 := { stood := { row := fnExactDictPutUptoRow, standIns := [], harness := (true, "2e4ac5a59a47c3128a2a6fc6700c21c58eddf6997fd545698b5046582c9a6e1d"), looks := true }, kinds := [], alts := [], laidByText := true, laidKinds := [.data, .data, .data], laidTests := true, laidLooks := .later }
def FnExactDictPutUptoCardSaid : Prop := Claim7.holds Tryz.pinned (.plain (OpenSpec.upto fnExactDictPutSpec)) fnExactDictPutUptoCard

/-- THE SECOND FORM's CARD OF 'laws.FnExactDictPairs'. -/
def fnExactDictPairsUptoCard : Claim7 := { stood := { row := fnExactDictPairsUptoRow, standIns := [], harness := (true, "2e4ac5a59a47c3128a2a6fc6700c21c58eddf6997fd545698b5046582c9a6e1d"), looks := true }, kinds := [], alts := [], laidByText := true, laidKinds := [.data, .data, .data], laidTests := true, laidLooks := .later }
def FnExactDictPairsUptoCardSaid : Prop := Claim7.holds Tryz.pinned (.plain (OpenSpec.upto fnExactDictPairsSpec)) fnExactDictPairsUptoCard

/-- THE SECOND FORM's CARD OF 'laws.FnExactPairsOf'. -/
def fnExactPairsOfUptoCard : Claim7 := { stood := { row := fnExactPairsOfUptoRow, standIns := [], harness := (true, "2e4ac5a59a47c3128a2a6fc6700c21c58eddf6997fd545698b5046582c9a6e1d"), looks := true }, kinds := [], alts := [], laidByText := true, laidKinds := [.data, .data, .data], laidTests := true, laidLooks := .later }
def FnExactPairsOfUptoCardSaid : Prop := Claim7.holds Tryz.pinned (.plain (OpenSpec.upto fnExactPairsOfSpec)) fnExactPairsOfUptoCard

/-- THE SECOND FORM's CARD OF 'laws.FnExactDo'. -/
def fnExactDoUptoCard : Claim7 := { stood := { row := fnExactDoUptoRow, standIns := [], harness := (true, "2e4ac5a59a47c3128a2a6fc6700c21c58eddf6997fd545698b5046582c9a6e1d"), looks := true }, kinds := [], alts := [], laidByText := true, laidKinds := [.data, .data, .data, .handle], laidTests := true, laidLooks := .later }
def FnExactDoUptoCardSaid : Prop := Claim7.holds Tryz.pinned (.plain (OpenSpec.upto fnExactDoSpec)) fnExactDoUptoCard
end Rows
end Go.Proofs.YtaidlooilnbpcaaGreatDoor
