/-
  DERIVED. GIVEN WITH THE SEED: THE CARDS: each row of YtgedcfgmfhlkdaaDoorRows.lean that lists a variable, with what it lists TIED to the program's text (the seventh form; the later family's looks); each row that meets fmt, with fmt's text TOLD by the authors' own Lean function (tested against real Go, not proved from fmt's source: count such statements apart). THE CARD IS WHAT COUNTS. Prove the row's statement (the work); the ties are given (YtgedcfgmfhlkdaaDoorTie.lean); close each card by the builder's one call (the guide's Derived/Test/ToyasCard.lean, 'card_holds'). Laid BY PROGRAM, IN A SANDBOX (cutbox-door.mjs). By AI agents, Wed Nov 11 2026. No macro, syntax, notation, axiom, sorry.
-/
import Derived.Test.YtgedcfgmfhlkdaaDoorRows
import GoSem.ClaimSeven
namespace Go.Proofs.YtgedcfgmfhlkdaaDoor
namespace Rows

/-- THE TIED CARD OF 'kilowattlaw08.DaysKinds'. -/
def daysKindsCard : Claim7 := { stood := { row := daysKindsRow, standIns := [], harness := (true, "d8bf50ba3fc602571a2cc66bf27eceeb59b5d965c2ce4a9a4edcc9af4c32a019"), looks := false }, kinds := [], alts := [], laidByText := true, laidKinds := [.data], laidTests := true, laidLooks := .later }
def DaysKindsCardSaid : Prop := Claim7.holds Tryd.pinned (.plain (OpenSpec.ofChange daysKindsSpec)) daysKindsCard

/-- THE TIED CARD OF 'kilowattlaw08.DaysLists'. -/
def daysListsCard : Claim7 := { stood := { row := daysListsRow, standIns := [], harness := (true, "d8bf50ba3fc602571a2cc66bf27eceeb59b5d965c2ce4a9a4edcc9af4c32a019"), looks := false }, kinds := [], alts := [], laidByText := true, laidKinds := [.data], laidTests := true, laidLooks := .later }
def DaysListsCardSaid : Prop := Claim7.holds Tryd.pinned (.plain (OpenSpec.ofChange daysListsSpec)) daysListsCard

/-- THE TIED CARD OF 'kilowattlaw08.DaysNames'. -/
def daysNamesCard : Claim7 := { stood := { row := daysNamesRow, standIns := [], harness := (true, "d8bf50ba3fc602571a2cc66bf27eceeb59b5d965c2ce4a9a4edcc9af4c32a019"), looks := false }, kinds := [], alts := [], laidByText := true, laidKinds := [.data], laidTests := true, laidLooks := .later }
def DaysNamesCardSaid : Prop := Claim7.holds Tryd.pinned (.plain (OpenSpec.ofChange daysNamesSpec)) daysNamesCard

/-- THE TIED CARD OF 'kilowattlaw08.DaysEaster'. -/
def daysEasterCard : Claim7 := { stood := { row := daysEasterRow, standIns := [], harness := (true, "d8bf50ba3fc602571a2cc66bf27eceeb59b5d965c2ce4a9a4edcc9af4c32a019"), looks := false }, kinds := [], alts := [], laidByText := true, laidKinds := [.data], laidTests := true, laidLooks := .later }
def DaysEasterCardSaid : Prop := Claim7.holds Tryd.pinned (.plain (OpenSpec.ofChange daysEasterSpec)) daysEasterCard

/-- THE TIED CARD OF 'kilowattlaw08.DaysOne'. -/
def daysOneCard : Claim7 := { stood := { row := daysOneRow, standIns := [], harness := (true, "d8bf50ba3fc602571a2cc66bf27eceeb59b5d965c2ce4a9a4edcc9af4c32a019"), looks := false }, kinds := [], alts := [], laidByText := true, laidKinds := [.data], laidTests := true, laidLooks := .later }
def DaysOneCardSaid : Prop := Claim7.holds Tryd.pinned (.plain (OpenSpec.ofChange daysOneSpec)) daysOneCard

/-- THE TIED CARD OF 'kilowattlaw08.DaysNexts'. -/
def daysNextsCard : Claim7 := { stood := { row := daysNextsRow, standIns := [], harness := (true, "d8bf50ba3fc602571a2cc66bf27eceeb59b5d965c2ce4a9a4edcc9af4c32a019"), looks := false }, kinds := [], alts := [], laidByText := true, laidKinds := [.data], laidTests := true, laidLooks := .later }
def DaysNextsCardSaid : Prop := Claim7.holds Tryd.pinned (.plain (OpenSpec.ofChange daysNextsSpec)) daysNextsCard

/-- THE SECOND FORM's CARD OF 'kilowattlaw08.DaysKinds'. -/
def daysKindsUptoCard : Claim7 := { stood := { row := daysKindsUptoRow, standIns := [], harness := (true, "d8bf50ba3fc602571a2cc66bf27eceeb59b5d965c2ce4a9a4edcc9af4c32a019"), looks := false }, kinds := [], alts := [], laidByText := true, laidKinds := [.data], laidTests := true, laidLooks := .later }
def DaysKindsUptoCardSaid : Prop := Claim7.holds Tryd.pinned (.plain (OpenSpec.upto daysKindsSpec)) daysKindsUptoCard

/-- THE SECOND FORM's CARD OF 'kilowattlaw08.DaysLists'. -/
def daysListsUptoCard : Claim7 := { stood := { row := daysListsUptoRow, standIns := [], harness := (true, "d8bf50ba3fc602571a2cc66bf27eceeb59b5d965c2ce4a9a4edcc9af4c32a019"), looks := false }, kinds := [], alts := [], laidByText := true, laidKinds := [.data], laidTests := true, laidLooks := .later }
def DaysListsUptoCardSaid : Prop := Claim7.holds Tryd.pinned (.plain (OpenSpec.upto daysListsSpec)) daysListsUptoCard

/-- THE SECOND FORM's CARD OF 'kilowattlaw08.DaysNames'. -/
def daysNamesUptoCard : Claim7 := { stood := { row := daysNamesUptoRow, standIns := [], harness := (true, "d8bf50ba3fc602571a2cc66bf27eceeb59b5d965c2ce4a9a4edcc9af4c32a019"), looks := false }, kinds := [], alts := [], laidByText := true, laidKinds := [.data], laidTests := true, laidLooks := .later }
def DaysNamesUptoCardSaid : Prop := Claim7.holds Tryd.pinned (.plain (OpenSpec.upto daysNamesSpec)) daysNamesUptoCard

/-- THE SECOND FORM's CARD OF 'kilowattlaw08.DaysEaster'. -/
def daysEasterUptoCard : Claim7 := { stood := { row := daysEasterUptoRow, standIns := [], harness := (true, "d8bf50ba3fc602571a2cc66bf27eceeb59b5d965c2ce4a9a4edcc9af4c32a019"), looks := false }, kinds := [], alts := [], laidByText := true, laidKinds := [.data], laidTests := true, laidLooks := .later }
def DaysEasterUptoCardSaid : Prop := Claim7.holds Tryd.pinned (.plain (OpenSpec.upto daysEasterSpec)) daysEasterUptoCard

/-- THE SECOND FORM's CARD OF 'kilowattlaw08.DaysOne'. -/
def daysOneUptoCard : Claim7 := { stood := { row := daysOneUptoRow, standIns := [], harness := (true, "d8bf50ba3fc602571a2cc66bf27eceeb59b5d965c2ce4a9a4edcc9af4c32a019"), looks := false }, kinds := [], alts := [], laidByText := true, laidKinds := [.data], laidTests := true, laidLooks := .later }
def DaysOneUptoCardSaid : Prop := Claim7.holds Tryd.pinned (.plain (OpenSpec.upto daysOneSpec)) daysOneUptoCard

/-- THE SECOND FORM's CARD OF 'kilowattlaw08.DaysNexts'. -/
def daysNextsUptoCard : Claim7 := { stood := { row := daysNextsUptoRow, standIns := [], harness := (true, "d8bf50ba3fc602571a2cc66bf27eceeb59b5d965c2ce4a9a4edcc9af4c32a019"), looks := false }, kinds := [], alts := [], laidByText := true, laidKinds := [.data], laidTests := true, laidLooks := .later }
def DaysNextsUptoCardSaid : Prop := Claim7.holds Tryd.pinned (.plain (OpenSpec.upto daysNextsSpec)) daysNextsUptoCard
end Rows
end Go.Proofs.YtgedcfgmfhlkdaaDoor
