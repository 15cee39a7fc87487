/-
  DERIVED. GIVEN WITH THE SEED: THE CARDS: each row of YtmfijackgekioabGreatDoorRows.lean that lists a variable, with what it lists TIED to the program's text (the seventh form; the later family's looks); each row that meets fmt, with fmt's text TOLD by the authors' own Lean function (tested against real Go, not proved from fmt's source: count such statements apart). THE CARD IS WHAT COUNTS. Prove the row's statement (the work); the ties are given (YtmfijackgekioabGreatDoorTie.lean); close each card by the builder's one call (the guide's Derived/Test/ToyasCard.lean, 'card_holds'). Laid BY PROGRAM, IN A SANDBOX (cutbox-door.mjs). By AI agents, Wed Nov 11 2026. No macro, syntax, notation, axiom, sorry.
-/
import Derived.Test.YtmfijackgekioabGreatDoorRows
import GoSem.ClaimSeven
namespace Go.Proofs.YtmfijackgekioabGreatDoor
namespace Rows

/-- THE TIED CARD OF 'mosaickeep.Cut'. -/
def cutCard : Claim7 := { stood := { row := cutRow, standIns := [], harness := (true, "28840d688c55d7c770ed22adc1b35948667b6beecd5ed5d90e5667bf08a95b41"), looks := true }, kinds := [], alts := [], laidByText := true, laidKinds := [.data], laidTests := true, laidLooks := .later }
def CutCardSaid : Prop := Claim7.holds Tryz.pinned (.plain (OpenSpec.ofChange cutSpec)) cutCard

/-- THE TIED CARD OF 'mosaickeep.Turned'. -/
def turnedCard : Claim7 := { stood := { row := turnedRow, standIns := [], harness := (true, "28840d688c55d7c770ed22adc1b35948667b6beecd5ed5d90e5667bf08a95b41"), looks := true }, kinds := [], alts := [], laidByText := true, laidKinds := [.data], laidTests := true, laidLooks := .later }
def TurnedCardSaid : Prop := Claim7.holds Tryz.pinned (.plain (OpenSpec.ofChange turnedSpec)) turnedCard

/-- THE TIED CARD OF 'mosaickeep.Amended'. -/
def amendedCard : Claim7 := { stood := { row := amendedRow, standIns := [], harness := (true, "28840d688c55d7c770ed22adc1b35948667b6beecd5ed5d90e5667bf08a95b41"), looks := true }, kinds := [], alts := [], laidByText := true, laidKinds := [.data], laidTests := true, laidLooks := .later }
def AmendedCardSaid : Prop := Claim7.holds Tryz.pinned (.plain (OpenSpec.ofChange amendedSpec)) amendedCard

/-- THE TIED CARD OF 'mosaickeep.Limited'. -/
def limitedCard : Claim7 := { stood := { row := limitedRow, standIns := [], harness := (true, "28840d688c55d7c770ed22adc1b35948667b6beecd5ed5d90e5667bf08a95b41"), looks := true }, kinds := [], alts := [], laidByText := true, laidKinds := [.data], laidTests := true, laidLooks := .later }
def LimitedCardSaid : Prop := Claim7.holds Tryz.pinned (.plain (OpenSpec.ofChange limitedSpec)) limitedCard

/-- THE SECOND FORM's CARD OF 'mosaickeep.Cut'. -/
def cutUptoCard : Claim7 := { stood := { row := cutUptoRow, standIns := [], harness := (true, "28840d688c55d7c770ed22adc1b35948667b6beecd5ed5d90e5667bf08a95b41"), looks := true }, kinds := [], alts := [], laidByText := true, laidKinds := [.data], laidTests := true, laidLooks := .later }
def CutUptoCardSaid : Prop := Claim7.holds Tryz.pinned (.plain (OpenSpec.upto cutSpec)) cutUptoCard

/-- THE SECOND FORM's CARD OF 'mosaickeep.Turned'. -/
def turnedUptoCard : Claim7 := { stood := { row := turnedUptoRow, standIns := [], harness := (true, "28840d688c55d7c770ed22adc1b35948667b6beecd5ed5d90e5667bf08a95b41"), looks := true }, kinds := [], alts := [], laidByText := true, laidKinds := [.data], laidTests := true, laidLooks := .later }
def TurnedUptoCardSaid : Prop := Claim7.holds Tryz.pinned (.plain (OpenSpec.upto turnedSpec)) turnedUptoCard

/-- THE SECOND FORM's CARD OF 'mosaickeep.Amended'. -/
def amendedUptoCard : Claim7 := { stood := { row := amendedUptoRow, standIns := [], harness := (true, "28840d688c55d7c770ed22adc1b35948667b6beecd5ed5d90e5667bf08a95b41"), looks := true }, kinds := [], alts := [], laidByText := true, laidKinds := [.data], laidTests := true, laidLooks := .later }
def AmendedUptoCardSaid : Prop := Claim7.holds Tryz.pinned (.plain (OpenSpec.upto amendedSpec)) amendedUptoCard

/-- THE SECOND FORM's CARD OF 'mosaickeep.Limited'. -/
def limitedUptoCard : Claim7 := { stood := { row := limitedUptoRow, standIns := [], harness := (true, "28840d688c55d7c770ed22adc1b35948667b6beecd5ed5d90e5667bf08a95b41"), looks := true }, kinds := [], alts := [], laidByText := true, laidKinds := [.data], laidTests := true, laidLooks := .later }
def LimitedUptoCardSaid : Prop := Claim7.holds Tryz.pinned (.plain (OpenSpec.upto limitedSpec)) limitedUptoCard
end Rows
end Go.Proofs.YtmfijackgekioabGreatDoor
