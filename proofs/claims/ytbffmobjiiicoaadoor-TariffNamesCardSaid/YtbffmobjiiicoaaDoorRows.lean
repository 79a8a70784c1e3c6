/-
  NARROWER THAN 'FOR EVERY INPUT', by the rows' own cells (each row's printed sentence says how): TariffNames: laid · TariffPieces: laid · TariffAlike: laid · TariffBack: laid.
  DERIVED. THE GIVEN ROWS OF THIS SEAT. 4 by the template 'for every input the law returns true; each argument reads behind the call as it read before'; 0 by the template 'total and deterministic' (their statements: YtbffmobjiiicoaaDoorTotals.lean).
  GIVEN WITH THE SEED: the statements are not yours to turn. If you find one false, say at which input.
  Laid BY PROGRAM, IN A SANDBOX (cutbox-rows.mjs): the forced cells as the released guide's own fill.sh prints them over the translation 19ec337aceddc096… (all of the seat's roots in one cut). By AI agents, Wed Nov 11 2026. No macro, syntax, notation, axiom, sorry.
-/
import Derived.Test.YtbffmobjiiicoaaDoorChecked
import GoSem.Claim
import GoSem.ClaimJoined
import GoSem.ClaimMapViews
import Derived.JoinedTies
import Derived.KernelRfl
namespace Go.Proofs.YtbffmobjiiicoaaDoor
/- THE CELL 'sum', in the pinned program and in every row, IS THE sha256 OF THE DUMP (.gsa) THAT YtbffmobjiiicoaaDoorProg.lean LOADS. Nothing in Lean hashes anything: it is a label: what it is worth is what the hold of that sum in a sandbox is worth. -/
noncomputable def Tryd.pinned : Pinned := { name := "ytbffmobjiiicoaadoor", sum := "19ec337aceddc09650185517e41affbf39d26e0ca9a61b69aafdce6a35402be5", checked := Tryd.checked }
namespace Rows
def none {H : Type} : Left H := { results := [], args := [] }

/- WHAT THE LISTED PACKAGE-LEVEL VARIABLES READ AS WHEN THE CALL BEGINS. Each datum BY PROGRAM (the guide's laid-datum.mjs) off the statement by which the dump's own 'gosem.cut.vars' lays the variable. In a bare row this is a premise. The card (YtbffmobjiiicoaaDoorCards.lean) ties it to the program's text. -/
def laid_kilowatt_civil_lengths {H : Type} : DataW H := .agg [.lit (.int .i64 31), .lit (.int .i64 28), .lit (.int .i64 31), .lit (.int .i64 30), .lit (.int .i64 31), .lit (.int .i64 30), .lit (.int .i64 31), .lit (.int .i64 31), .lit (.int .i64 30), .lit (.int .i64 31), .lit (.int .i64 30), .lit (.int .i64 31)]

/-- 'kilowattlaw11.TariffNames': WHATEVER THE INPUT: true; the input reads as it did. -/
def tariffNamesSpec : ChangeSpec := { name := "tariffNames", fn := fun _ => fun
  | [] => { results := [.lit (.bool true)], args := [] }
  | _ => none }
def tariffNamesRow : OpenClaim := { program := "ytbffmobjiiicoaadoor", sum := "19ec337aceddc09650185517e41affbf39d26e0ca9a61b69aafdce6a35402be5", func := "kilowatt/kilowattlaw11.TariffNames", spec := "tariffNames", inPlace := ["math/bits.Add64"], unfollowed := true, recurses := true, named := ["math/bits.divideError", "math/bits.overflowError", "kilowatt/civil.lengths"], apart := false, laid := [("kilowatt/civil.lengths", laid_kilowatt_civil_lengths)] }
def TariffNamesSaid : Prop := tariffNamesRow.holds Tryd.pinned (OpenSpec.ofChange tariffNamesSpec)

/-- ITS FALSE NEIGHBOUR: 'it returns false'. Refute it at one input. -/
def tariffNamesWrong : ChangeSpec := { name := "tariffNames", fn := fun _ => fun
  | [] => { results := [.lit (.bool false)], args := [] }
  | _ => none }
def TariffNamesWrongFalsely : Prop := tariffNamesRow.holds Tryd.pinned (OpenSpec.ofChange tariffNamesWrong)

/-- 'kilowattlaw11.TariffPieces': WHATEVER THE INPUT: true; the input reads as it did. -/
def tariffPiecesSpec : ChangeSpec := { name := "tariffPieces", fn := fun _ => fun
  | [d1, d2] => { results := [.lit (.bool true)], args := [d1, d2] }
  | _ => none }
def tariffPiecesRow : OpenClaim := { program := "ytbffmobjiiicoaadoor", sum := "19ec337aceddc09650185517e41affbf39d26e0ca9a61b69aafdce6a35402be5", func := "kilowatt/kilowattlaw11.TariffPieces", spec := "tariffPieces", inPlace := ["math/bits.Add64"], unfollowed := true, recurses := true, named := ["math/bits.divideError", "math/bits.overflowError", "kilowatt/civil.lengths"], apart := false, laid := [("kilowatt/civil.lengths", laid_kilowatt_civil_lengths)] }
def TariffPiecesSaid : Prop := tariffPiecesRow.holds Tryd.pinned (OpenSpec.ofChange tariffPiecesSpec)

/-- ITS FALSE NEIGHBOUR: 'it returns false'. Refute it at one input. -/
def tariffPiecesWrong : ChangeSpec := { name := "tariffPieces", fn := fun _ => fun
  | [d1, d2] => { results := [.lit (.bool false)], args := [d1, d2] }
  | _ => none }
def TariffPiecesWrongFalsely : Prop := tariffPiecesRow.holds Tryd.pinned (OpenSpec.ofChange tariffPiecesWrong)

/-- 'kilowattlaw11.TariffAlike': WHATEVER THE INPUT: true; the input reads as it did. -/
def tariffAlikeSpec : ChangeSpec := { name := "tariffAlike", fn := fun _ => fun
  | [d1, d2, d3] => { results := [.lit (.bool true)], args := [d1, d2, d3] }
  | _ => none }
def tariffAlikeRow : OpenClaim := { program := "ytbffmobjiiicoaadoor", sum := "19ec337aceddc09650185517e41affbf39d26e0ca9a61b69aafdce6a35402be5", func := "kilowatt/kilowattlaw11.TariffAlike", spec := "tariffAlike", inPlace := ["math/bits.Add64"], unfollowed := true, recurses := true, named := ["math/bits.divideError", "math/bits.overflowError", "kilowatt/civil.lengths"], apart := false, laid := [("kilowatt/civil.lengths", laid_kilowatt_civil_lengths)] }
def TariffAlikeSaid : Prop := tariffAlikeRow.holds Tryd.pinned (OpenSpec.ofChange tariffAlikeSpec)

/-- ITS FALSE NEIGHBOUR: 'it returns false'. Refute it at one input. -/
def tariffAlikeWrong : ChangeSpec := { name := "tariffAlike", fn := fun _ => fun
  | [d1, d2, d3] => { results := [.lit (.bool false)], args := [d1, d2, d3] }
  | _ => none }
def TariffAlikeWrongFalsely : Prop := tariffAlikeRow.holds Tryd.pinned (OpenSpec.ofChange tariffAlikeWrong)

/-- 'kilowattlaw11.TariffBack': WHATEVER THE INPUT: true; the input reads as it did. -/
def tariffBackSpec : ChangeSpec := { name := "tariffBack", fn := fun _ => fun
  | [d] => { results := [.lit (.bool true)], args := [d] }
  | _ => none }
def tariffBackRow : OpenClaim := { program := "ytbffmobjiiicoaadoor", sum := "19ec337aceddc09650185517e41affbf39d26e0ca9a61b69aafdce6a35402be5", func := "kilowatt/kilowattlaw11.TariffBack", spec := "tariffBack", inPlace := ["math/bits.Add64"], unfollowed := true, recurses := true, named := ["math/bits.divideError", "math/bits.overflowError", "kilowatt/civil.lengths"], apart := false, laid := [("kilowatt/civil.lengths", laid_kilowatt_civil_lengths)] }
def TariffBackSaid : Prop := tariffBackRow.holds Tryd.pinned (OpenSpec.ofChange tariffBackSpec)

/-- ITS FALSE NEIGHBOUR: 'it returns false'. Refute it at one input. -/
def tariffBackWrong : ChangeSpec := { name := "tariffBack", fn := fun _ => fun
  | [d] => { results := [.lit (.bool false)], args := [d] }
  | _ => none }
def TariffBackWrongFalsely : Prop := tariffBackRow.holds Tryd.pinned (OpenSpec.ofChange tariffBackWrong)

/- THE SECOND FORM. 'bulk': how many values and letters a reading holds, each counted each time it is reached (what is shared counts as often as it is met; a slice's spare places count too). A statement '..UptoSaid' is the law's where the arguments, and the package variables that the reading takes, are together of bulk at most 1048576: NARROWER than '..Said'. Prove '..Said' where nothing that the law and all that it calls make is longer than what came in: it says more and counts as full. Else prove '..UptoSaid'. A law counts once. -/
mutual
def uptoBulk {H : Type} : DataW H → Nat
  | .lit (.string bytes) => bytes.length + 1
  | .lit _ => 1
  | .nil => 1
  | .ptr d => uptoBulk d + 1
  | .slice elems spare => uptoBulkAll elems + uptoBulkAll spare + 1
  | .agg parts => uptoBulkAll parts + 1
  | .iface _ d => uptoBulk d + 1
  | .map entries => uptoBulkEntries entries + 1
  | .held _ => 1
def uptoBulkAll {H : Type} : List (DataW H) → Nat
  | [] => 0
  | d :: r => uptoBulk d + uptoBulkAll r
def uptoBulkEntries {H : Type} : List (Lit × DataW H) → Nat
  | [] => 0
  | x :: r => uptoBulkEntry x + uptoBulkEntries r
def uptoBulkEntry {H : Type} : Lit × DataW H → Nat
  | (.string bytes, d) => bytes.length + uptoBulk d + 1
  | (_, d) => uptoBulk d + 1
 end
def uptoSmall : (H : Type) → List (DataW H) → Bool := fun _ ds => decide (uptoBulkAll ds ≤ 1048576)
def OpenSpec.upto (s : _root_.Go.ChangeSpec) : _root_.Go.OpenSpec := { _root_.Go.OpenSpec.ofChange s with cond := some uptoSmall }

/-- 'kilowattlaw11.TariffNames', WHERE WHAT IT READS IS OF BULK AT MOST 1048576: true; the input reads as it did. -/
def tariffNamesUptoRow : OpenClaim := { program := "ytbffmobjiiicoaadoor", sum := "19ec337aceddc09650185517e41affbf39d26e0ca9a61b69aafdce6a35402be5", func := "kilowatt/kilowattlaw11.TariffNames", spec := "tariffNames", inPlace := ["math/bits.Add64"], unfollowed := true, recurses := true, named := ["math/bits.divideError", "math/bits.overflowError", "kilowatt/civil.lengths"], apart := false, laid := [("kilowatt/civil.lengths", laid_kilowatt_civil_lengths)], narrowed := true }
def TariffNamesUptoSaid : Prop := tariffNamesUptoRow.holds Tryd.pinned (OpenSpec.upto tariffNamesSpec)

/-- 'kilowattlaw11.TariffPieces', WHERE WHAT IT READS IS OF BULK AT MOST 1048576: true; the input reads as it did. -/
def tariffPiecesUptoRow : OpenClaim := { program := "ytbffmobjiiicoaadoor", sum := "19ec337aceddc09650185517e41affbf39d26e0ca9a61b69aafdce6a35402be5", func := "kilowatt/kilowattlaw11.TariffPieces", spec := "tariffPieces", inPlace := ["math/bits.Add64"], unfollowed := true, recurses := true, named := ["math/bits.divideError", "math/bits.overflowError", "kilowatt/civil.lengths"], apart := false, laid := [("kilowatt/civil.lengths", laid_kilowatt_civil_lengths)], narrowed := true }
def TariffPiecesUptoSaid : Prop := tariffPiecesUptoRow.holds Tryd.pinned (OpenSpec.upto tariffPiecesSpec)

/-- 'kilowattlaw11.TariffAlike', WHERE WHAT IT READS IS OF BULK AT MOST 1048576: true; the input reads as it did. -/
def tariffAlikeUptoRow : OpenClaim := { program := "ytbffmobjiiicoaadoor", sum := "19ec337aceddc09650185517e41affbf39d26e0ca9a61b69aafdce6a35402be5", func := "kilowatt/kilowattlaw11.TariffAlike", spec := "tariffAlike", inPlace := ["math/bits.Add64"], unfollowed := true, recurses := true, named := ["math/bits.divideError", "math/bits.overflowError", "kilowatt/civil.lengths"], apart := false, laid := [("kilowatt/civil.lengths", laid_kilowatt_civil_lengths)], narrowed := true }
def TariffAlikeUptoSaid : Prop := tariffAlikeUptoRow.holds Tryd.pinned (OpenSpec.upto tariffAlikeSpec)

/-- 'kilowattlaw11.TariffBack', WHERE WHAT IT READS IS OF BULK AT MOST 1048576: true; the input reads as it did. -/
def tariffBackUptoRow : OpenClaim := { program := "ytbffmobjiiicoaadoor", sum := "19ec337aceddc09650185517e41affbf39d26e0ca9a61b69aafdce6a35402be5", func := "kilowatt/kilowattlaw11.TariffBack", spec := "tariffBack", inPlace := ["math/bits.Add64"], unfollowed := true, recurses := true, named := ["math/bits.divideError", "math/bits.overflowError", "kilowatt/civil.lengths"], apart := false, laid := [("kilowatt/civil.lengths", laid_kilowatt_civil_lengths)], narrowed := true }
def TariffBackUptoSaid : Prop := tariffBackUptoRow.holds Tryd.pinned (OpenSpec.upto tariffBackSpec)

end Rows
end Go.Proofs.YtbffmobjiiicoaaDoor
