/-
  DERIVED. GIVEN WITH THE SEED: THE CARDS: each row of YtbffmobjiiicoaaDoorRows.lean that lists a variable, with what it lists TIED to the program's text (the seventh form; the later family's looks); each row that meets fmt, with fmt's text TOLD by the authors' own Lean function (tested against real Go, not proved from fmt's source: count such statements apart). THE CARD IS WHAT COUNTS. Prove the row's statement (the work); the ties are given (YtbffmobjiiicoaaDoorTie.lean); close each card by the builder's one call (the guide's Derived/Test/ToyasCard.lean, 'card_holds'). Laid BY PROGRAM, IN A SANDBOX (cutbox-door.mjs). By AI agents, Wed Nov 11 2026. No macro, syntax, notation, axiom, sorry.
-/
import Derived.Test.YtbffmobjiiicoaaDoorRows
import GoSem.ClaimSeven
namespace Go.Proofs.YtbffmobjiiicoaaDoor
namespace Rows

/-- THE TIED CARD OF 'kilowattlaw11.TariffNames'. -/
def tariffNamesCard : Claim7 := { stood := { row := tariffNamesRow, standIns := [], harness := (true, "feb832f0aec08b3401d1d8d47626f9cd968da2f707642312d1425833743abecd"), looks := false }, kinds := [], alts := [], laidByText := true, laidKinds := [.data], laidTests := true, laidLooks := .later }
def TariffNamesCardSaid : Prop := Claim7.holds Tryd.pinned (.plain (OpenSpec.ofChange tariffNamesSpec)) tariffNamesCard

/-- THE TIED CARD OF 'kilowattlaw11.TariffPieces'. -/
def tariffPiecesCard : Claim7 := { stood := { row := tariffPiecesRow, standIns := [], harness := (true, "feb832f0aec08b3401d1d8d47626f9cd968da2f707642312d1425833743abecd"), looks := false }, kinds := [], alts := [], laidByText := true, laidKinds := [.data], laidTests := true, laidLooks := .later }
def TariffPiecesCardSaid : Prop := Claim7.holds Tryd.pinned (.plain (OpenSpec.ofChange tariffPiecesSpec)) tariffPiecesCard

/-- THE TIED CARD OF 'kilowattlaw11.TariffAlike'. -/
def tariffAlikeCard : Claim7 := { stood := { row := tariffAlikeRow, standIns := [], harness := (true, "feb832f0aec08b3401d1d8d47626f9cd968da2f707642312d1425833743abecd"), looks := false }, kinds := [], alts := [], laidByText := true, laidKinds := [.data], laidTests := true, laidLooks := .later }
def TariffAlikeCardSaid : Prop := Claim7.holds Tryd.pinned (.plain (OpenSpec.ofChange tariffAlikeSpec)) tariffAlikeCard

/-- THE TIED CARD OF 'kilowattlaw11.TariffBack'. -/
def tariffBackCard : Claim7 := { stood := { row := tariffBackRow, standIns := [], harness := (true, "feb832f0aec08b3401d1d8d47626f9cd968da2f707642312d1425833743abecd"), looks := false }, kinds := [], alts := [], laidByText := true, laidKinds := [.data], laidTests := true, laidLooks := .later }
def TariffBackCardSaid : Prop := Claim7.holds Tryd.pinned (.plain (OpenSpec.ofChange tariffBackSpec)) tariffBackCard

/-- THE SECOND FORM's CARD OF 'kilowattlaw11.TariffNames'. -/
def tariffNamesUptoCard : Claim7 := { stood := { row := tariffNamesUptoRow, standIns := [], harness := (true, "feb832f0aec08b3401d1d8d47626f9cd968da2f707642312d1425833743abecd"), looks := false }, kinds := [], alts := [], laidByText := true, laidKinds := [.data], laidTests := true, laidLooks := .later }
def TariffNamesUptoCardSaid : Prop := Claim7.holds Tryd.pinned (.plain (OpenSpec.upto tariffNamesSpec)) tariffNamesUptoCard

/-- THE SECOND FORM's CARD OF 'kilowattlaw11.TariffPieces'. -/
def tariffPiecesUptoCard : Claim7 := { stood := { row := tariffPiecesUptoRow, standIns := [], harness := (true, "feb832f0aec08b3401d1d8d47626f9cd968da2f707642312d1425833743abecd"), looks := false }, kinds := [], alts := [], laidByText := true, laidKinds := [.data], laidTests := true, laidLooks := .later }
def TariffPiecesUptoCardSaid : Prop := Claim7.holds Tryd.pinned (.plain (OpenSpec.upto tariffPiecesSpec)) tariffPiecesUptoCard

/-- THE SECOND FORM's CARD OF 'kilowattlaw11.TariffAlike'. -/
def tariffAlikeUptoCard : Claim7 := { stood := { row := tariffAlikeUptoRow, standIns := [], harness := (true, "feb832f0aec08b3401d1d8d47626f9cd968da2f707642312d1425833743abecd"), looks := false }, kinds := [], alts := [], laidByText := true, laidKinds := [.data], laidTests := true, laidLooks := .later }
def TariffAlikeUptoCardSaid : Prop := Claim7.holds Tryd.pinned (.plain (OpenSpec.upto tariffAlikeSpec)) tariffAlikeUptoCard

/-- THE SECOND FORM's CARD OF 'kilowattlaw11.TariffBack'. -/
def tariffBackUptoCard : Claim7 := { stood := { row := tariffBackUptoRow, standIns := [], harness := (true, "feb832f0aec08b3401d1d8d47626f9cd968da2f707642312d1425833743abecd"), looks := false }, kinds := [], alts := [], laidByText := true, laidKinds := [.data], laidTests := true, laidLooks := .later }
def TariffBackUptoCardSaid : Prop := Claim7.holds Tryd.pinned (.plain (OpenSpec.upto tariffBackSpec)) tariffBackUptoCard
end Rows
end Go.Proofs.YtbffmobjiiicoaaDoor
