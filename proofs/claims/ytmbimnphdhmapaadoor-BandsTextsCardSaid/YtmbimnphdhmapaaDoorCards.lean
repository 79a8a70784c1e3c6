/-
  DERIVED. GIVEN WITH THE SEED: THE CARDS: each row of YtmbimnphdhmapaaDoorRows.lean that lists a variable, with what it lists TIED to the program's text (the seventh form; the later family's looks); each row that meets fmt, with fmt's text TOLD by the authors' own Lean function (tested against real Go, not proved from fmt's source: count such statements apart). THE CARD IS WHAT COUNTS. Prove the row's statement (the work); the ties are given (YtmbimnphdhmapaaDoorTie.lean); close each card by the builder's one call (the guide's Derived/Test/ToyasCard.lean, 'card_holds'). Laid BY PROGRAM, IN A SANDBOX (cutbox-door.mjs). By AI agents, Wed Nov 11 2026. No macro, syntax, notation, axiom, sorry.
-/
import Derived.Test.YtmbimnphdhmapaaDoorRows
import GoSem.ClaimSeven
namespace Go.Proofs.YtmbimnphdhmapaaDoor
namespace Rows

/-- THE TIED CARD OF 'kilowattlaw09.BandsTexts'. -/
def bandsTextsCard : Claim7 := { stood := { row := bandsTextsRow, standIns := [], harness := (true, "9e432cb64597afddf8b404cb7174914852c8704f5eca3e41f4f51e3ab61a8540"), looks := true }, kinds := [], alts := [], laidByText := true, laidKinds := [.data, .data, .data, .data, .sentinel, .sentinel, .pinned], laidTests := true, laidLooks := .later }
def BandsTextsCardSaid : Prop := Claim7.holds Tryd.pinned (.plain (OpenSpec.ofChange bandsTextsSpec)) bandsTextsCard

/-- THE TIED CARD OF 'kilowattlaw09.BandsNames'. -/
def bandsNamesCard : Claim7 := { stood := { row := bandsNamesRow, standIns := [], harness := (true, "9e432cb64597afddf8b404cb7174914852c8704f5eca3e41f4f51e3ab61a8540"), looks := true }, kinds := [], alts := [], laidByText := true, laidKinds := [.data, .data, .data, .data, .sentinel, .sentinel, .pinned], laidTests := true, laidLooks := .later }
def BandsNamesCardSaid : Prop := Claim7.holds Tryd.pinned (.plain (OpenSpec.ofChange bandsNamesSpec)) bandsNamesCard

/-- THE TIED CARD OF 'kilowattlaw09.BandsBack'. -/
def bandsBackCard : Claim7 := { stood := { row := bandsBackRow, standIns := [], harness := (true, "9e432cb64597afddf8b404cb7174914852c8704f5eca3e41f4f51e3ab61a8540"), looks := true }, kinds := [], alts := [], laidByText := true, laidKinds := [.data, .data, .data, .data, .sentinel, .sentinel, .pinned], laidTests := true, laidLooks := .later }
def BandsBackCardSaid : Prop := Claim7.holds Tryd.pinned (.plain (OpenSpec.ofChange bandsBackSpec)) bandsBackCard

/-- THE SECOND FORM's CARD OF 'kilowattlaw09.BandsTexts'. -/
def bandsTextsUptoCard : Claim7 := { stood := { row := bandsTextsUptoRow, standIns := [], harness := (true, "9e432cb64597afddf8b404cb7174914852c8704f5eca3e41f4f51e3ab61a8540"), looks := true }, kinds := [], alts := [], laidByText := true, laidKinds := [.data, .data, .data, .data, .sentinel, .sentinel, .pinned], laidTests := true, laidLooks := .later }
def BandsTextsUptoCardSaid : Prop := Claim7.holds Tryd.pinned (.plain (OpenSpec.upto bandsTextsSpec)) bandsTextsUptoCard

/-- THE SECOND FORM's CARD OF 'kilowattlaw09.BandsNames'. -/
def bandsNamesUptoCard : Claim7 := { stood := { row := bandsNamesUptoRow, standIns := [], harness := (true, "9e432cb64597afddf8b404cb7174914852c8704f5eca3e41f4f51e3ab61a8540"), looks := true }, kinds := [], alts := [], laidByText := true, laidKinds := [.data, .data, .data, .data, .sentinel, .sentinel, .pinned], laidTests := true, laidLooks := .later }
def BandsNamesUptoCardSaid : Prop := Claim7.holds Tryd.pinned (.plain (OpenSpec.upto bandsNamesSpec)) bandsNamesUptoCard

/-- THE SECOND FORM's CARD OF 'kilowattlaw09.BandsBack'. -/
def bandsBackUptoCard : Claim7 := { stood := { row := bandsBackUptoRow, standIns := [], harness := (true, "9e432cb64597afddf8b404cb7174914852c8704f5eca3e41f4f51e3ab61a8540"), looks := true }, kinds := [], alts := [], laidByText := true, laidKinds := [.data, .data, .data, .data, .sentinel, .sentinel, .pinned], laidTests := true, laidLooks := .later }
def BandsBackUptoCardSaid : Prop := Claim7.holds Tryd.pinned (.plain (OpenSpec.upto bandsBackSpec)) bandsBackUptoCard
end Rows
end Go.Proofs.YtmbimnphdhmapaaDoor
