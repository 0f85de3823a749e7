/-
  DERIVED. GIVEN WITH THE SEED: THE CARDS: each row of YtfceeijdmilieaaGreatDoorRows.lean that lists a variable, with what it lists TIED to the program's text (the seventh form; the later family's looks); each row that meets fmt, with fmt's text TOLD by the authors' own Lean function (tested against real Go, not proved from fmt's source: count such statements apart). THE CARD IS WHAT COUNTS. Prove the row's statement (the work); the ties are given (YtfceeijdmilieaaGreatDoorTie.lean); close each card by the builder's one call (the guide's Derived/Test/ToyasCard.lean, 'card_holds'). Laid BY PROGRAM, IN A SANDBOX (cutbox-door.mjs). By AI agents, Wed Nov 11 2026. No macro, syntax, notation, axiom, sorry.
-/
import Derived.Test.YtfceeijdmilieaaGreatDoorRows
import GoSem.ClaimSeven
namespace Go.Proofs.YtfceeijdmilieaaGreatDoor
namespace Rows

/-- THE TIED CARD OF 'laws.FnSound'. -/
def fnSoundCard : Claim7 := { stood := { row := fnSoundRow, standIns := [], harness := (true, "7c733d30bdb46e3a74abd0ebbfdd432bfd69ac6174d7cf21f77a2f1a20550fd8"), looks := true }, kinds := [], alts := [], laidByText := true, laidKinds := [.data, .data, .data, .handle], laidTests := true, laidLooks := .later }
def FnSoundCardSaid : Prop := Claim7.holds Tryz.pinned (.plain (OpenSpec.ofChange fnSoundSpec)) fnSoundCard

/-- THE TIED CARD OF 'laws.FnExactPairsOf'. -/
def fnExactPairsOfCard : Claim7 := { stood := { row := fnExactPairsOfRow, standIns := [], harness := (true, "7c733d30bdb46e3a74abd0ebbfdd432bfd69ac6174d7cf21f77a2f1a20550fd8"), looks := true }, kinds := [], alts := [], laidByText := true, laidKinds := [.data, .data, .data], laidTests := true, laidLooks := .later }
def FnExactPairsOfCardSaid : Prop := Claim7.holds Tryz.pinned (.plain (OpenSpec.ofChange fnExactPairsOfSpec)) fnExactPairsOfCard

/-- THE TIED CARD OF 'laws.FnExactDo'. -/
def fnExactDoCard : Claim7 := { stood := { row := fnExactDoRow, standIns := [], harness := (true, "7c733d30bdb46e3a74abd0ebbfdd432bfd69ac6174d7cf21f77a2f1a20550fd8"), looks := true }, kinds := [], alts := [], laidByText := true, laidKinds := [.data, .data, .data, .handle], laidTests := true, laidLooks := .later }
def FnExactDoCardSaid : Prop := Claim7.holds Tryz.pinned (.plain (OpenSpec.ofChange fnExactDoSpec)) fnExactDoCard

/-- THE SECOND FORM's CARD OF 'laws.FnSound'. -/
def fnSoundUptoCard : Claim7 := { stood := { row := fnSoundUptoRow, standIns := [], harness := (true, "7c733d30bdb46e3a74abd0ebbfdd432bfd69ac6174d7cf21f77a2f1a20550fd8"), looks := true }, kinds := [], alts := [], laidByText := true, laidKinds := [.data, .data, .data, .handle], laidTests := true, laidLooks := .later }
def FnSoundUptoCardSaid : Prop := Claim7.holds Tryz.pinned (.plain (OpenSpec.upto fnSoundSpec)) fnSoundUptoCard

/-- THE SECOND FORM's CARD OF 'laws.FnExactPairsOf'. -/
def fnExactPairsOfUptoCard : Claim7 := { stood := { row := fnExactPairsOfUptoRow, standIns := [], harness := (true, "7c733d30bdb46e3a74abd0ebbfdd432bfd69ac6174d7cf21f77a2f1a20550fd8"), looks := true }, kinds := [], alts := [], laidByText := true, laidKinds := [.data, .data, .data], laidTests := true, laidLooks := .later }
def FnExactPairsOfUptoCardSaid : Prop := Claim7.holds Tryz.pinned (.plain (OpenSpec.upto fnExactPairsOfSpec)) fnExactPairsOfUptoCard

/-- THE SECOND FORM's CARD OF 'laws.FnExactDo'. -/
def fnExactDoUptoCard : Claim7 := { stood := { row := fnExactDoUptoRow, standIns := [], harness := (true, "7c733d30bdb46e3a74abd0ebbfdd432bfd69ac6174d7cf21f77a2f1a20550fd8"), looks := true }, kinds := [], alts := [], laidByText := true, laidKinds := [.data, .data, .data, .handle], laidTests := true, laidLooks := .later }
def FnExactDoUptoCardSaid : Prop := Claim7.holds Tryz.pinned (.plain (OpenSpec.upto fnExactDoSpec)) fnExactDoUptoCard
end Rows
end Go.Proofs.YtfceeijdmilieaaGreatDoor
