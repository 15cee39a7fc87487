/-
  DERIVED. GIVEN WITH THE SEED: THE CARDS: each row of YtknjlhalaehlhaaDoorRows.lean that lists a variable, with what it lists TIED to the program's text (the seventh form; the later family's looks); each row that meets fmt, with fmt's text TOLD by the authors' own Lean function (tested against real Go, not proved from fmt's source: count such statements apart). THE CARD IS WHAT COUNTS. Prove the row's statement (the work); the ties are given (YtknjlhalaehlhaaDoorTie.lean); close each card by the builder's one call (the guide's Derived/Test/ToyasCard.lean, 'card_holds'). Laid BY PROGRAM, IN A SANDBOX (cutbox-door.mjs). By AI agents, Wed Nov 11 2026. No macro, syntax, notation, axiom, sorry.
-/
import Derived.Test.YtknjlhalaehlhaaDoorRows
import GoSem.ClaimSeven
namespace Go.Proofs.YtknjlhalaehlhaaDoor
namespace Rows

/-- THE TIED CARD OF 'mosaiclaw.Checks'. -/
def checksCard : Claim7 := { stood := { row := checksRow, standIns := [], harness := (true, "244adc23b26bbe62d3758464970735d2cd795c64ff21300f91eb8038a53a917d"), looks := true }, kinds := [], alts := [], laidByText := true, laidKinds := [.data], laidTests := true, laidLooks := .later }
def ChecksCardSaid : Prop := Claim7.holds Tryd.pinned (.plain (OpenSpec.ofChange checksSpec)) checksCard

/-- THE TIED CARD OF 'mosaiclaw.Inflates'. -/
def inflatesCard : Claim7 := { stood := { row := inflatesRow, standIns := [], harness := (true, "244adc23b26bbe62d3758464970735d2cd795c64ff21300f91eb8038a53a917d"), looks := true }, kinds := [], alts := [], laidByText := true, laidKinds := [.data], laidTests := true, laidLooks := .later }
def InflatesCardSaid : Prop := Claim7.holds Tryd.pinned (.plain (OpenSpec.ofChange inflatesSpec)) inflatesCard

/-- THE SECOND FORM's CARD OF 'mosaiclaw.Checks'. -/
def checksUptoCard : Claim7 := { stood := { row := checksUptoRow, standIns := [], harness := (true, "244adc23b26bbe62d3758464970735d2cd795c64ff21300f91eb8038a53a917d"), looks := true }, kinds := [], alts := [], laidByText := true, laidKinds := [.data], laidTests := true, laidLooks := .later }
def ChecksUptoCardSaid : Prop := Claim7.holds Tryd.pinned (.plain (OpenSpec.upto checksSpec)) checksUptoCard

/-- THE SECOND FORM's CARD OF 'mosaiclaw.Inflates'. -/
def inflatesUptoCard : Claim7 := { stood := { row := inflatesUptoRow, standIns := [], harness := (true, "244adc23b26bbe62d3758464970735d2cd795c64ff21300f91eb8038a53a917d"), looks := true }, kinds := [], alts := [], laidByText := true, laidKinds := [.data], laidTests := true, laidLooks := .later }
def InflatesUptoCardSaid : Prop := Claim7.holds Tryd.pinned (.plain (OpenSpec.upto inflatesSpec)) inflatesUptoCard
end Rows
end Go.Proofs.YtknjlhalaehlhaaDoor
