/-
  DERIVED. GIVEN WITH THE SEED: THE CARDS: each row of YtjlejpenegjbcaaDoorRows.lean that lists a variable, with what it lists TIED to the program's text (the seventh form; the later family's looks); each row that meets fmt, with fmt's text TOLD by the authors' own Lean function (tested against real Go, not proved from fmt's source: count such statements apart). THE CARD IS WHAT COUNTS. Prove the row's statement (the work); the ties are given (YtjlejpenegjbcaaDoorTie.lean); close each card by the builder's one call (the guide's Derived/Test/ToyasCard.lean, 'card_holds'). Laid BY PROGRAM, IN A SANDBOX (cutbox-door.mjs). By AI agents, Wed Nov 11 2026. No macro, syntax, notation, axiom, sorry.
-/
import Derived.Test.YtjlejpenegjbcaaDoorRows
import GoSem.ClaimSeven
namespace Go.Proofs.YtjlejpenegjbcaaDoor
namespace Rows

/-- THE TIED CARD OF 'kilowattlaw06.CivilDays'. -/
def civilDaysCard : Claim7 := { stood := { row := civilDaysRow, standIns := [], harness := (true, "e1ba5908f7a2cc1811388bb7970cdf2de3a3d2289cbb5bdf16b4f183326b0fb3"), looks := false }, kinds := [], alts := [], laidByText := true, laidKinds := [.data], laidTests := true, laidLooks := .later }
def CivilDaysCardSaid : Prop := Claim7.holds Tryd.pinned (.plain (OpenSpec.ofChange civilDaysSpec)) civilDaysCard

/-- THE TIED CARD OF 'kilowattlaw06.CivilMoments'. -/
def civilMomentsCard : Claim7 := { stood := { row := civilMomentsRow, standIns := [], harness := (true, "e1ba5908f7a2cc1811388bb7970cdf2de3a3d2289cbb5bdf16b4f183326b0fb3"), looks := false }, kinds := [], alts := [], laidByText := true, laidKinds := [.data], laidTests := true, laidLooks := .later }
def CivilMomentsCardSaid : Prop := Claim7.holds Tryd.pinned (.plain (OpenSpec.ofChange civilMomentsSpec)) civilMomentsCard

/-- THE TIED CARD OF 'kilowattlaw06.CivilTexts'. -/
def civilTextsCard : Claim7 := { stood := { row := civilTextsRow, standIns := [], harness := (true, "e1ba5908f7a2cc1811388bb7970cdf2de3a3d2289cbb5bdf16b4f183326b0fb3"), looks := false }, kinds := [], alts := [], laidByText := true, laidKinds := [.data, .data, .data, .data], laidTests := true, laidLooks := .later }
def CivilTextsCardSaid : Prop := Claim7.holds Tryd.pinned (.plain (OpenSpec.ofChange civilTextsSpec)) civilTextsCard

/-- THE TIED CARD OF 'kilowattlaw06.CivilNames'. -/
def civilNamesCard : Claim7 := { stood := { row := civilNamesRow, standIns := [], harness := (true, "e1ba5908f7a2cc1811388bb7970cdf2de3a3d2289cbb5bdf16b4f183326b0fb3"), looks := false }, kinds := [], alts := [], laidByText := true, laidKinds := [.data, .data, .data, .data], laidTests := true, laidLooks := .later }
def CivilNamesCardSaid : Prop := Claim7.holds Tryd.pinned (.plain (OpenSpec.ofChange civilNamesSpec)) civilNamesCard

/-- THE TIED CARD OF 'kilowattlaw06.CivilBack'. -/
def civilBackCard : Claim7 := { stood := { row := civilBackRow, standIns := [], harness := (true, "e1ba5908f7a2cc1811388bb7970cdf2de3a3d2289cbb5bdf16b4f183326b0fb3"), looks := false }, kinds := [], alts := [], laidByText := true, laidKinds := [.data, .data, .data, .data], laidTests := true, laidLooks := .later }
def CivilBackCardSaid : Prop := Claim7.holds Tryd.pinned (.plain (OpenSpec.ofChange civilBackSpec)) civilBackCard

/-- THE TIED CARD OF 'kilowattlaw06.CivilNext'. -/
def civilNextCard : Claim7 := { stood := { row := civilNextRow, standIns := [], harness := (true, "e1ba5908f7a2cc1811388bb7970cdf2de3a3d2289cbb5bdf16b4f183326b0fb3"), looks := false }, kinds := [], alts := [], laidByText := true, laidKinds := [.data], laidTests := true, laidLooks := .later }
def CivilNextCardSaid : Prop := Claim7.holds Tryd.pinned (.plain (OpenSpec.ofChange civilNextSpec)) civilNextCard

/-- THE TIED CARD OF 'kilowattlaw06.CivilNths'. -/
def civilNthsCard : Claim7 := { stood := { row := civilNthsRow, standIns := [], harness := (true, "e1ba5908f7a2cc1811388bb7970cdf2de3a3d2289cbb5bdf16b4f183326b0fb3"), looks := false }, kinds := [], alts := [], laidByText := true, laidKinds := [.data], laidTests := true, laidLooks := .later }
def CivilNthsCardSaid : Prop := Claim7.holds Tryd.pinned (.plain (OpenSpec.ofChange civilNthsSpec)) civilNthsCard

/-- THE SECOND FORM's CARD OF 'kilowattlaw06.CivilDays'. -/
def civilDaysUptoCard : Claim7 := { stood := { row := civilDaysUptoRow, standIns := [], harness := (true, "e1ba5908f7a2cc1811388bb7970cdf2de3a3d2289cbb5bdf16b4f183326b0fb3"), looks := false }, kinds := [], alts := [], laidByText := true, laidKinds := [.data], laidTests := true, laidLooks := .later }
def CivilDaysUptoCardSaid : Prop := Claim7.holds Tryd.pinned (.plain (OpenSpec.upto civilDaysSpec)) civilDaysUptoCard

/-- THE SECOND FORM's CARD OF 'kilowattlaw06.CivilMoments'. -/
def civilMomentsUptoCard : Claim7 := { stood := { row := civilMomentsUptoRow, standIns := [], harness := (true, "e1ba5908f7a2cc1811388bb7970cdf2de3a3d2289cbb5bdf16b4f183326b0fb3"), looks := false }, kinds := [], alts := [], laidByText := true, laidKinds := [.data], laidTests := true, laidLooks := .later }
def CivilMomentsUptoCardSaid : Prop := Claim7.holds Tryd.pinned (.plain (OpenSpec.upto civilMomentsSpec)) civilMomentsUptoCard

/-- THE SECOND FORM's CARD OF 'kilowattlaw06.CivilTexts'. -/
def civilTextsUptoCard : Claim7 := { stood := { row := civilTextsUptoRow, standIns := [], harness := (true, "e1ba5908f7a2cc1811388bb7970cdf2de3a3d2289cbb5bdf16b4f183326b0fb3"), looks := false }, kinds := [], alts := [], laidByText := true, laidKinds := [.data, .data, .data, .data], laidTests := true, laidLooks := .later }
def CivilTextsUptoCardSaid : Prop := Claim7.holds Tryd.pinned (.plain (OpenSpec.upto civilTextsSpec)) civilTextsUptoCard

/-- THE SECOND FORM's CARD OF 'kilowattlaw06.CivilNames'. -/
def civilNamesUptoCard : Claim7 := { stood := { row := civilNamesUptoRow, standIns := [], harness := (true, "e1ba5908f7a2cc1811388bb7970cdf2de3a3d2289cbb5bdf16b4f183326b0fb3"), looks := false }, kinds := [], alts := [], laidByText := true, laidKinds := [.data, .data, .data, .data], laidTests := true, laidLooks := .later }
def CivilNamesUptoCardSaid : Prop := Claim7.holds Tryd.pinned (.plain (OpenSpec.upto civilNamesSpec)) civilNamesUptoCard

/-- THE SECOND FORM's CARD OF 'kilowattlaw06.CivilBack'. -/
def civilBackUptoCard : Claim7 := { stood := { row := civilBackUptoRow, standIns := [], harness := (true, "e1ba5908f7a2cc1811388bb7970cdf2de3a3d2289cbb5bdf16b4f183326b0fb3"), looks := false }, kinds := [], alts := [], laidByText := true, laidKinds := [.data, .data, .data, .data], laidTests := true, laidLooks := .later }
def CivilBackUptoCardSaid : Prop := Claim7.holds Tryd.pinned (.plain (OpenSpec.upto civilBackSpec)) civilBackUptoCard

/-- THE SECOND FORM's CARD OF 'kilowattlaw06.CivilNext'. -/
def civilNextUptoCard : Claim7 := { stood := { row := civilNextUptoRow, standIns := [], harness := (true, "e1ba5908f7a2cc1811388bb7970cdf2de3a3d2289cbb5bdf16b4f183326b0fb3"), looks := false }, kinds := [], alts := [], laidByText := true, laidKinds := [.data], laidTests := true, laidLooks := .later }
def CivilNextUptoCardSaid : Prop := Claim7.holds Tryd.pinned (.plain (OpenSpec.upto civilNextSpec)) civilNextUptoCard

/-- THE SECOND FORM's CARD OF 'kilowattlaw06.CivilNths'. -/
def civilNthsUptoCard : Claim7 := { stood := { row := civilNthsUptoRow, standIns := [], harness := (true, "e1ba5908f7a2cc1811388bb7970cdf2de3a3d2289cbb5bdf16b4f183326b0fb3"), looks := false }, kinds := [], alts := [], laidByText := true, laidKinds := [.data], laidTests := true, laidLooks := .later }
def CivilNthsUptoCardSaid : Prop := Claim7.holds Tryd.pinned (.plain (OpenSpec.upto civilNthsSpec)) civilNthsUptoCard
end Rows
end Go.Proofs.YtjlejpenegjbcaaDoor
