/-
  DERIVED. GIVEN WITH THE SEED: THE CARDS: each row of YthlpigffjbhmoaaDoorRows.lean that lists a variable, with what it lists TIED to the program's text (the seventh form; the later family's looks); each row that meets fmt, with fmt's text TOLD by the authors' own Lean function (tested against real Go, not proved from fmt's source: count such statements apart). THE CARD IS WHAT COUNTS. Prove the row's statement (the work); the ties are given (YthlpigffjbhmoaaDoorTie.lean); close each card by the builder's one call (the guide's Derived/Test/ToyasCard.lean, 'card_holds'). Laid BY PROGRAM, IN A SANDBOX (cutbox-door.mjs). By AI agents, Wed Nov 11 2026. No macro, syntax, notation, axiom, sorry.
-/
import Derived.Test.YthlpigffjbhmoaaDoorRows
import GoSem.ClaimSeven
namespace Go.Proofs.YthlpigffjbhmoaaDoor
namespace Rows

/-- THE TIED CARD OF 'kilowattlaw10.RatesTexts'. -/
def ratesTextsCard : Claim7 := { stood := { row := ratesTextsRow, standIns := [], harness := (true, "ccd26801130467f9b01ea27ec7cb194b20c707e9a5d3437257364bb2e53fe447"), looks := true }, kinds := [], alts := [], laidByText := true, laidKinds := [.data, .data, .data, .data, .sentinel, .sentinel, .pinned], laidTests := true, laidLooks := .later }
def RatesTextsCardSaid : Prop := Claim7.holds Tryd.pinned (.plain (OpenSpec.ofChange ratesTextsSpec)) ratesTextsCard

/-- THE TIED CARD OF 'kilowattlaw10.RatesNames'. -/
def ratesNamesCard : Claim7 := { stood := { row := ratesNamesRow, standIns := [], harness := (true, "ccd26801130467f9b01ea27ec7cb194b20c707e9a5d3437257364bb2e53fe447"), looks := true }, kinds := [], alts := [], laidByText := true, laidKinds := [.data, .data, .data, .data, .sentinel, .sentinel, .pinned], laidTests := true, laidLooks := .later }
def RatesNamesCardSaid : Prop := Claim7.holds Tryd.pinned (.plain (OpenSpec.ofChange ratesNamesSpec)) ratesNamesCard

/-- THE TIED CARD OF 'kilowattlaw10.RatesMore'. -/
def ratesMoreCard : Claim7 := { stood := { row := ratesMoreRow, standIns := [], harness := (true, "ccd26801130467f9b01ea27ec7cb194b20c707e9a5d3437257364bb2e53fe447"), looks := true }, kinds := [], alts := [], laidByText := true, laidKinds := [.data, .data, .data], laidTests := true, laidLooks := .later }
def RatesMoreCardSaid : Prop := Claim7.holds Tryd.pinned (.plain (OpenSpec.ofChange ratesMoreSpec)) ratesMoreCard

/-- THE TIED CARD OF 'kilowattlaw10.RatesBack'. -/
def ratesBackCard : Claim7 := { stood := { row := ratesBackRow, standIns := [], harness := (true, "ccd26801130467f9b01ea27ec7cb194b20c707e9a5d3437257364bb2e53fe447"), looks := true }, kinds := [], alts := [], laidByText := true, laidKinds := [.data, .data, .data, .data, .sentinel, .sentinel, .pinned], laidTests := true, laidLooks := .later }
def RatesBackCardSaid : Prop := Claim7.holds Tryd.pinned (.plain (OpenSpec.ofChange ratesBackSpec)) ratesBackCard

/-- THE TIED CARD OF 'kilowattlaw10.RatesAll'. -/
def ratesAllCard : Claim7 := { stood := { row := ratesAllRow, standIns := [], harness := (true, "ccd26801130467f9b01ea27ec7cb194b20c707e9a5d3437257364bb2e53fe447"), looks := true }, kinds := [], alts := [], laidByText := true, laidKinds := [.data, .data, .data], laidTests := true, laidLooks := .later }
def RatesAllCardSaid : Prop := Claim7.holds Tryd.pinned (.plain (OpenSpec.ofChange ratesAllSpec)) ratesAllCard

/-- THE SECOND FORM's CARD OF 'kilowattlaw10.RatesTexts'. -/
def ratesTextsUptoCard : Claim7 := { stood := { row := ratesTextsUptoRow, standIns := [], harness := (true, "ccd26801130467f9b01ea27ec7cb194b20c707e9a5d3437257364bb2e53fe447"), looks := true }, kinds := [], alts := [], laidByText := true, laidKinds := [.data, .data, .data, .data, .sentinel, .sentinel, .pinned], laidTests := true, laidLooks := .later }
def RatesTextsUptoCardSaid : Prop := Claim7.holds Tryd.pinned (.plain (OpenSpec.upto ratesTextsSpec)) ratesTextsUptoCard

/-- THE SECOND FORM's CARD OF 'kilowattlaw10.RatesNames'. -/
def ratesNamesUptoCard : Claim7 := { stood := { row := ratesNamesUptoRow, standIns := [], harness := (true, "ccd26801130467f9b01ea27ec7cb194b20c707e9a5d3437257364bb2e53fe447"), looks := true }, kinds := [], alts := [], laidByText := true, laidKinds := [.data, .data, .data, .data, .sentinel, .sentinel, .pinned], laidTests := true, laidLooks := .later }
def RatesNamesUptoCardSaid : Prop := Claim7.holds Tryd.pinned (.plain (OpenSpec.upto ratesNamesSpec)) ratesNamesUptoCard

/-- THE SECOND FORM's CARD OF 'kilowattlaw10.RatesMore'. -/
def ratesMoreUptoCard : Claim7 := { stood := { row := ratesMoreUptoRow, standIns := [], harness := (true, "ccd26801130467f9b01ea27ec7cb194b20c707e9a5d3437257364bb2e53fe447"), looks := true }, kinds := [], alts := [], laidByText := true, laidKinds := [.data, .data, .data], laidTests := true, laidLooks := .later }
def RatesMoreUptoCardSaid : Prop := Claim7.holds Tryd.pinned (.plain (OpenSpec.upto ratesMoreSpec)) ratesMoreUptoCard

/-- THE SECOND FORM's CARD OF 'kilowattlaw10.RatesBack'. -/
def ratesBackUptoCard : Claim7 := { stood := { row := ratesBackUptoRow, standIns := [], harness := (true, "ccd26801130467f9b01ea27ec7cb194b20c707e9a5d3437257364bb2e53fe447"), looks := true }, kinds := [], alts := [], laidByText := true, laidKinds := [.data, .data, .data, .data, .sentinel, .sentinel, .pinned], laidTests := true, laidLooks := .later }
def RatesBackUptoCardSaid : Prop := Claim7.holds Tryd.pinned (.plain (OpenSpec.upto ratesBackSpec)) ratesBackUptoCard

/-- THE SECOND FORM's CARD OF 'kilowattlaw10.RatesAll'. -/
def ratesAllUptoCard : Claim7 := { stood := { row := ratesAllUptoRow, standIns := [], harness := (true, "ccd26801130467f9b01ea27ec7cb194b20c707e9a5d3437257364bb2e53fe447"), looks := true }, kinds := [], alts := [], laidByText := true, laidKinds := [.data, .data, .data], laidTests := true, laidLooks := .later }
def RatesAllUptoCardSaid : Prop := Claim7.holds Tryd.pinned (.plain (OpenSpec.upto ratesAllSpec)) ratesAllUptoCard
end Rows
end Go.Proofs.YthlpigffjbhmoaaDoor
