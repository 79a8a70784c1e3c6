/-
  NARROWER THAN 'FOR EVERY INPUT', by the rows' own cells (each row's printed sentence says how): CivilDays: laid · CivilMoments: laid · CivilTexts: laid · CivilNames: laid · CivilBack: laid · CivilNext: laid · CivilNths: laid.
  DERIVED. THE GIVEN ROWS OF THIS SEAT. 7 by the template 'for every input the law returns true; each argument reads behind the call as it read before'; 0 by the template 'total and deterministic' (their statements: YtjlejpenegjbcaaDoorTotals.lean).
  GIVEN WITH THE SEED: the statements are not yours to turn. If you find one false, say at which input.
  Laid BY PROGRAM, IN A SANDBOX (cutbox-rows.mjs): the forced cells as the released guide's own fill.sh prints them over the translation ac612f045b10a9ac… (all of the seat's roots in one cut). By AI agents, Wed Nov 11 2026. No macro, syntax, notation, axiom, sorry.
-/
import Derived.Test.YtjlejpenegjbcaaDoorChecked
import GoSem.Claim
import GoSem.ClaimJoined
import GoSem.ClaimMapViews
import Derived.JoinedTies
import Derived.KernelRfl
namespace Go.Proofs.YtjlejpenegjbcaaDoor
/- THE CELL 'sum', in the pinned program and in every row, IS THE sha256 OF THE DUMP (.gsa) THAT YtjlejpenegjbcaaDoorProg.lean LOADS. Nothing in Lean hashes anything: it is a label: what it is worth is what the hold of that sum in a sandbox is worth. -/
noncomputable def Tryd.pinned : Pinned := { name := "ytjlejpenegjbcaadoor", sum := "ac612f045b10a9aceb9e4b98c589c5b0df8db12840e7341c5a540ff9f6ce2a39", checked := Tryd.checked }
namespace Rows
def none {H : Type} : Left H := { results := [], args := [] }

/- WHAT THE LISTED PACKAGE-LEVEL VARIABLES READ AS WHEN THE CALL BEGINS. Each datum BY PROGRAM (the guide's laid-datum.mjs) off the statement by which the dump's own 'gosem.cut.vars' lays the variable. In a bare row this is a premise. The card (YtjlejpenegjbcaaDoorCards.lean) ties it to the program's text. -/
def laid_kilowatt_civil_lengths {H : Type} : DataW H := .agg [.lit (.int .i64 31), .lit (.int .i64 28), .lit (.int .i64 31), .lit (.int .i64 30), .lit (.int .i64 31), .lit (.int .i64 30), .lit (.int .i64 31), .lit (.int .i64 31), .lit (.int .i64 30), .lit (.int .i64 31), .lit (.int .i64 30), .lit (.int .i64 31)]
def laid_math_bits_deBruijn32tab {H : Type} : DataW H := .agg [.lit (.int .u8 0), .lit (.int .u8 1), .lit (.int .u8 28), .lit (.int .u8 2), .lit (.int .u8 29), .lit (.int .u8 14), .lit (.int .u8 24), .lit (.int .u8 3), .lit (.int .u8 30), .lit (.int .u8 22), .lit (.int .u8 20), .lit (.int .u8 15), .lit (.int .u8 25), .lit (.int .u8 17), .lit (.int .u8 4), .lit (.int .u8 8), .lit (.int .u8 31), .lit (.int .u8 27), .lit (.int .u8 13), .lit (.int .u8 23), .lit (.int .u8 21), .lit (.int .u8 19), .lit (.int .u8 16), .lit (.int .u8 7), .lit (.int .u8 26), .lit (.int .u8 12), .lit (.int .u8 18), .lit (.int .u8 6), .lit (.int .u8 11), .lit (.int .u8 5), .lit (.int .u8 10), .lit (.int .u8 9)]
def laid_math_bits_deBruijn64tab {H : Type} : DataW H := .agg [.lit (.int .u8 0), .lit (.int .u8 1), .lit (.int .u8 56), .lit (.int .u8 2), .lit (.int .u8 57), .lit (.int .u8 49), .lit (.int .u8 28), .lit (.int .u8 3), .lit (.int .u8 61), .lit (.int .u8 58), .lit (.int .u8 42), .lit (.int .u8 50), .lit (.int .u8 38), .lit (.int .u8 29), .lit (.int .u8 17), .lit (.int .u8 4), .lit (.int .u8 62), .lit (.int .u8 47), .lit (.int .u8 59), .lit (.int .u8 36), .lit (.int .u8 45), .lit (.int .u8 43), .lit (.int .u8 51), .lit (.int .u8 22), .lit (.int .u8 53), .lit (.int .u8 39), .lit (.int .u8 33), .lit (.int .u8 30), .lit (.int .u8 24), .lit (.int .u8 18), .lit (.int .u8 12), .lit (.int .u8 5), .lit (.int .u8 63), .lit (.int .u8 55), .lit (.int .u8 48), .lit (.int .u8 27), .lit (.int .u8 60), .lit (.int .u8 41), .lit (.int .u8 37), .lit (.int .u8 16), .lit (.int .u8 46), .lit (.int .u8 35), .lit (.int .u8 44), .lit (.int .u8 21), .lit (.int .u8 52), .lit (.int .u8 32), .lit (.int .u8 23), .lit (.int .u8 11), .lit (.int .u8 54), .lit (.int .u8 26), .lit (.int .u8 40), .lit (.int .u8 15), .lit (.int .u8 34), .lit (.int .u8 20), .lit (.int .u8 31), .lit (.int .u8 10), .lit (.int .u8 25), .lit (.int .u8 14), .lit (.int .u8 19), .lit (.int .u8 9), .lit (.int .u8 13), .lit (.int .u8 8), .lit (.int .u8 7), .lit (.int .u8 6)]
def laid_internal_strconv_uint64pow10 {H : Type} : DataW H := .agg [.lit (.int .u64 1), .lit (.int .u64 10), .lit (.int .u64 100), .lit (.int .u64 1000), .lit (.int .u64 10000), .lit (.int .u64 100000), .lit (.int .u64 1000000), .lit (.int .u64 10000000), .lit (.int .u64 100000000), .lit (.int .u64 1000000000), .lit (.int .u64 10000000000), .lit (.int .u64 100000000000), .lit (.int .u64 1000000000000), .lit (.int .u64 10000000000000), .lit (.int .u64 100000000000000), .lit (.int .u64 1000000000000000), .lit (.int .u64 10000000000000000), .lit (.int .u64 100000000000000000), .lit (.int .u64 1000000000000000000), .lit (.int .u64 10000000000000000000)]

/-- 'kilowattlaw06.CivilDays': WHATEVER THE INPUT: true; the input reads as it did. -/
def civilDaysSpec : ChangeSpec := { name := "civilDays", fn := fun _ => fun
  | [d1, d2] => { results := [.lit (.bool true)], args := [d1, d2] }
  | _ => none }
def civilDaysRow : OpenClaim := { program := "ytjlejpenegjbcaadoor", sum := "ac612f045b10a9aceb9e4b98c589c5b0df8db12840e7341c5a540ff9f6ce2a39", func := "kilowatt/kilowattlaw06.CivilDays", spec := "civilDays", unfollowed := true, recurses := true, named := ["kilowatt/civil.lengths"], apart := false, laid := [("kilowatt/civil.lengths", laid_kilowatt_civil_lengths)] }
def CivilDaysSaid : Prop := civilDaysRow.holds Tryd.pinned (OpenSpec.ofChange civilDaysSpec)

/-- ITS FALSE NEIGHBOUR: 'it returns false'. Refute it at one input. -/
def civilDaysWrong : ChangeSpec := { name := "civilDays", fn := fun _ => fun
  | [d1, d2] => { results := [.lit (.bool false)], args := [d1, d2] }
  | _ => none }
def CivilDaysWrongFalsely : Prop := civilDaysRow.holds Tryd.pinned (OpenSpec.ofChange civilDaysWrong)

/-- 'kilowattlaw06.CivilMoments': WHATEVER THE INPUT: true; the input reads as it did. -/
def civilMomentsSpec : ChangeSpec := { name := "civilMoments", fn := fun _ => fun
  | [d1, d2] => { results := [.lit (.bool true)], args := [d1, d2] }
  | _ => none }
def civilMomentsRow : OpenClaim := { program := "ytjlejpenegjbcaadoor", sum := "ac612f045b10a9aceb9e4b98c589c5b0df8db12840e7341c5a540ff9f6ce2a39", func := "kilowatt/kilowattlaw06.CivilMoments", spec := "civilMoments", unfollowed := true, recurses := true, named := ["kilowatt/civil.lengths"], apart := false, laid := [("kilowatt/civil.lengths", laid_kilowatt_civil_lengths)] }
def CivilMomentsSaid : Prop := civilMomentsRow.holds Tryd.pinned (OpenSpec.ofChange civilMomentsSpec)

/-- ITS FALSE NEIGHBOUR: 'it returns false'. Refute it at one input. -/
def civilMomentsWrong : ChangeSpec := { name := "civilMoments", fn := fun _ => fun
  | [d1, d2] => { results := [.lit (.bool false)], args := [d1, d2] }
  | _ => none }
def CivilMomentsWrongFalsely : Prop := civilMomentsRow.holds Tryd.pinned (OpenSpec.ofChange civilMomentsWrong)

/-- 'kilowattlaw06.CivilTexts': WHATEVER THE INPUT: true; the input reads as it did. -/
def civilTextsSpec : ChangeSpec := { name := "civilTexts", fn := fun _ => fun
  | [d1, d2, d3, d4] => { results := [.lit (.bool true)], args := [d1, d2, d3, d4] }
  | _ => none }
def civilTextsRow : OpenClaim := { program := "ytjlejpenegjbcaadoor", sum := "ac612f045b10a9aceb9e4b98c589c5b0df8db12840e7341c5a540ff9f6ce2a39", func := "kilowatt/kilowattlaw06.CivilTexts", spec := "civilTexts", inPlace := ["internal/abi.NoEscape", "internal/bytealg.MakeNoZero"], unfollowed := true, recurses := true, named := ["kilowatt/civil.lengths", "internal/strconv.uint64pow10", "math/bits.deBruijn32tab", "math/bits.deBruijn64tab"], apart := false, laid := [("math/bits.deBruijn32tab", laid_math_bits_deBruijn32tab), ("math/bits.deBruijn64tab", laid_math_bits_deBruijn64tab), ("internal/strconv.uint64pow10", laid_internal_strconv_uint64pow10), ("kilowatt/civil.lengths", laid_kilowatt_civil_lengths)] }
def CivilTextsSaid : Prop := civilTextsRow.holds Tryd.pinned (OpenSpec.ofChange civilTextsSpec)

/-- ITS FALSE NEIGHBOUR: 'it returns false'. Refute it at one input. -/
def civilTextsWrong : ChangeSpec := { name := "civilTexts", fn := fun _ => fun
  | [d1, d2, d3, d4] => { results := [.lit (.bool false)], args := [d1, d2, d3, d4] }
  | _ => none }
def CivilTextsWrongFalsely : Prop := civilTextsRow.holds Tryd.pinned (OpenSpec.ofChange civilTextsWrong)

/-- 'kilowattlaw06.CivilNames': WHATEVER THE INPUT: true; the input reads as it did. -/
def civilNamesSpec : ChangeSpec := { name := "civilNames", fn := fun _ => fun
  | [] => { results := [.lit (.bool true)], args := [] }
  | _ => none }
def civilNamesRow : OpenClaim := { program := "ytjlejpenegjbcaadoor", sum := "ac612f045b10a9aceb9e4b98c589c5b0df8db12840e7341c5a540ff9f6ce2a39", func := "kilowatt/kilowattlaw06.CivilNames", spec := "civilNames", inPlace := ["internal/abi.NoEscape", "internal/bytealg.MakeNoZero"], unfollowed := true, recurses := true, named := ["kilowatt/civil.lengths", "internal/strconv.uint64pow10", "math/bits.deBruijn32tab", "math/bits.deBruijn64tab"], apart := false, laid := [("math/bits.deBruijn32tab", laid_math_bits_deBruijn32tab), ("math/bits.deBruijn64tab", laid_math_bits_deBruijn64tab), ("internal/strconv.uint64pow10", laid_internal_strconv_uint64pow10), ("kilowatt/civil.lengths", laid_kilowatt_civil_lengths)] }
def CivilNamesSaid : Prop := civilNamesRow.holds Tryd.pinned (OpenSpec.ofChange civilNamesSpec)

/-- ITS FALSE NEIGHBOUR: 'it returns false'. Refute it at one input. -/
def civilNamesWrong : ChangeSpec := { name := "civilNames", fn := fun _ => fun
  | [] => { results := [.lit (.bool false)], args := [] }
  | _ => none }
def CivilNamesWrongFalsely : Prop := civilNamesRow.holds Tryd.pinned (OpenSpec.ofChange civilNamesWrong)

/-- 'kilowattlaw06.CivilBack': WHATEVER THE INPUT: true; the input reads as it did. -/
def civilBackSpec : ChangeSpec := { name := "civilBack", fn := fun _ => fun
  | [d1, d2, d3, d4] => { results := [.lit (.bool true)], args := [d1, d2, d3, d4] }
  | _ => none }
def civilBackRow : OpenClaim := { program := "ytjlejpenegjbcaadoor", sum := "ac612f045b10a9aceb9e4b98c589c5b0df8db12840e7341c5a540ff9f6ce2a39", func := "kilowatt/kilowattlaw06.CivilBack", spec := "civilBack", inPlace := ["internal/abi.NoEscape", "internal/bytealg.MakeNoZero"], unfollowed := true, recurses := true, named := ["kilowatt/civil.lengths", "internal/strconv.uint64pow10", "math/bits.deBruijn32tab", "math/bits.deBruijn64tab"], apart := false, laid := [("math/bits.deBruijn32tab", laid_math_bits_deBruijn32tab), ("math/bits.deBruijn64tab", laid_math_bits_deBruijn64tab), ("internal/strconv.uint64pow10", laid_internal_strconv_uint64pow10), ("kilowatt/civil.lengths", laid_kilowatt_civil_lengths)] }
def CivilBackSaid : Prop := civilBackRow.holds Tryd.pinned (OpenSpec.ofChange civilBackSpec)

/-- ITS FALSE NEIGHBOUR: 'it returns false'. Refute it at one input. -/
def civilBackWrong : ChangeSpec := { name := "civilBack", fn := fun _ => fun
  | [d1, d2, d3, d4] => { results := [.lit (.bool false)], args := [d1, d2, d3, d4] }
  | _ => none }
def CivilBackWrongFalsely : Prop := civilBackRow.holds Tryd.pinned (OpenSpec.ofChange civilBackWrong)

/-- 'kilowattlaw06.CivilNext': WHATEVER THE INPUT: true; the input reads as it did. -/
def civilNextSpec : ChangeSpec := { name := "civilNext", fn := fun _ => fun
  | [d] => { results := [.lit (.bool true)], args := [d] }
  | _ => none }
def civilNextRow : OpenClaim := { program := "ytjlejpenegjbcaadoor", sum := "ac612f045b10a9aceb9e4b98c589c5b0df8db12840e7341c5a540ff9f6ce2a39", func := "kilowatt/kilowattlaw06.CivilNext", spec := "civilNext", unfollowed := true, recurses := true, named := ["kilowatt/civil.lengths"], apart := false, laid := [("kilowatt/civil.lengths", laid_kilowatt_civil_lengths)] }
def CivilNextSaid : Prop := civilNextRow.holds Tryd.pinned (OpenSpec.ofChange civilNextSpec)

/-- ITS FALSE NEIGHBOUR: 'it returns false'. Refute it at one input. -/
def civilNextWrong : ChangeSpec := { name := "civilNext", fn := fun _ => fun
  | [d] => { results := [.lit (.bool false)], args := [d] }
  | _ => none }
def CivilNextWrongFalsely : Prop := civilNextRow.holds Tryd.pinned (OpenSpec.ofChange civilNextWrong)

/-- 'kilowattlaw06.CivilNths': WHATEVER THE INPUT: true; the input reads as it did. -/
def civilNthsSpec : ChangeSpec := { name := "civilNths", fn := fun _ => fun
  | [d1, d2, d3] => { results := [.lit (.bool true)], args := [d1, d2, d3] }
  | _ => none }
def civilNthsRow : OpenClaim := { program := "ytjlejpenegjbcaadoor", sum := "ac612f045b10a9aceb9e4b98c589c5b0df8db12840e7341c5a540ff9f6ce2a39", func := "kilowatt/kilowattlaw06.CivilNths", spec := "civilNths", unfollowed := true, recurses := true, named := ["kilowatt/civil.lengths"], apart := false, laid := [("kilowatt/civil.lengths", laid_kilowatt_civil_lengths)] }
def CivilNthsSaid : Prop := civilNthsRow.holds Tryd.pinned (OpenSpec.ofChange civilNthsSpec)

/-- ITS FALSE NEIGHBOUR: 'it returns false'. Refute it at one input. -/
def civilNthsWrong : ChangeSpec := { name := "civilNths", fn := fun _ => fun
  | [d1, d2, d3] => { results := [.lit (.bool false)], args := [d1, d2, d3] }
  | _ => none }
def CivilNthsWrongFalsely : Prop := civilNthsRow.holds Tryd.pinned (OpenSpec.ofChange civilNthsWrong)

/- THE SECOND FORM. 'bulk': how many values and letters a reading holds, each counted each time it is reached (what is shared counts as often as it is met; a slice's spare places count too). A statement '..UptoSaid' is the law's where the arguments, and the package variables that the reading takes, are together of bulk at most 1048576: NARROWER than '..Said'. Prove '..Said' where nothing that the law and all that it calls make is longer than what came in: it says more and counts as full. Else prove '..UptoSaid'. A law counts once. -/
mutual
def uptoBulk {H : Type} : DataW H → Nat
  | .lit (.string bytes) => bytes.length + 1
  | .lit _ => 1
  | .nil => 1
  | .ptr d => uptoBulk d + 1
  | .slice elems spare => uptoBulkAll elems + uptoBulkAll spare + 1
  | .agg parts => uptoBulkAll parts + 1
  | .iface _ d => uptoBulk d + 1
  | .map entries => uptoBulkEntries entries + 1
  | .held _ => 1
def uptoBulkAll {H : Type} : List (DataW H) → Nat
  | [] => 0
  | d :: r => uptoBulk d + uptoBulkAll r
def uptoBulkEntries {H : Type} : List (Lit × DataW H) → Nat
  | [] => 0
  | x :: r => uptoBulkEntry x + uptoBulkEntries r
def uptoBulkEntry {H : Type} : Lit × DataW H → Nat
  | (.string bytes, d) => bytes.length + uptoBulk d + 1
  | (_, d) => uptoBulk d + 1
 end
def uptoSmall : (H : Type) → List (DataW H) → Bool := fun _ ds => decide (uptoBulkAll ds ≤ 1048576)
def OpenSpec.upto (s : _root_.Go.ChangeSpec) : _root_.Go.OpenSpec := { _root_.Go.OpenSpec.ofChange s with cond := some uptoSmall }

/-- 'kilowattlaw06.CivilDays', WHERE WHAT IT READS IS OF BULK AT MOST 1048576: true; the input reads as it did. -/
def civilDaysUptoRow : OpenClaim := { program := "ytjlejpenegjbcaadoor", sum := "ac612f045b10a9aceb9e4b98c589c5b0df8db12840e7341c5a540ff9f6ce2a39", func := "kilowatt/kilowattlaw06.CivilDays", spec := "civilDays", unfollowed := true, recurses := true, named := ["kilowatt/civil.lengths"], apart := false, laid := [("kilowatt/civil.lengths", laid_kilowatt_civil_lengths)], narrowed := true }
def CivilDaysUptoSaid : Prop := civilDaysUptoRow.holds Tryd.pinned (OpenSpec.upto civilDaysSpec)

/-- 'kilowattlaw06.CivilMoments', WHERE WHAT IT READS IS OF BULK AT MOST 1048576: true; the input reads as it did. -/
def civilMomentsUptoRow : OpenClaim := { program := "ytjlejpenegjbcaadoor", sum := "ac612f045b10a9aceb9e4b98c589c5b0df8db12840e7341c5a540ff9f6ce2a39", func := "kilowatt/kilowattlaw06.CivilMoments", spec := "civilMoments", unfollowed := true, recurses := true, named := ["kilowatt/civil.lengths"], apart := false, laid := [("kilowatt/civil.lengths", laid_kilowatt_civil_lengths)], narrowed := true }
def CivilMomentsUptoSaid : Prop := civilMomentsUptoRow.holds Tryd.pinned (OpenSpec.upto civilMomentsSpec)

/-- 'kilowattlaw06.CivilTexts', WHERE WHAT IT READS IS OF BULK AT MOST 1048576: true; the input reads as it did. -/
def civilTextsUptoRow : OpenClaim := { program := "ytjlejpenegjbcaadoor", sum := "ac612f045b10a9aceb9e4b98c589c5b0df8db12840e7341c5a540ff9f6ce2a39", func := "kilowatt/kilowattlaw06.CivilTexts", spec := "civilTexts", inPlace := ["internal/abi.NoEscape", "internal/bytealg.MakeNoZero"], unfollowed := true, recurses := true, named := ["kilowatt/civil.lengths", "internal/strconv.uint64pow10", "math/bits.deBruijn32tab", "math/bits.deBruijn64tab"], apart := false, laid := [("math/bits.deBruijn32tab", laid_math_bits_deBruijn32tab), ("math/bits.deBruijn64tab", laid_math_bits_deBruijn64tab), ("internal/strconv.uint64pow10", laid_internal_strconv_uint64pow10), ("kilowatt/civil.lengths", laid_kilowatt_civil_lengths)], narrowed := true }
def CivilTextsUptoSaid : Prop := civilTextsUptoRow.holds Tryd.pinned (OpenSpec.upto civilTextsSpec)

/-- 'kilowattlaw06.CivilNames', WHERE WHAT IT READS IS OF BULK AT MOST 1048576: true; the input reads as it did. -/
def civilNamesUptoRow : OpenClaim := { program := "ytjlejpenegjbcaadoor", sum := "ac612f045b10a9aceb9e4b98c589c5b0df8db12840e7341c5a540ff9f6ce2a39", func := "kilowatt/kilowattlaw06.CivilNames", spec := "civilNames", inPlace := ["internal/abi.NoEscape", "internal/bytealg.MakeNoZero"], unfollowed := true, recurses := true, named := ["kilowatt/civil.lengths", "internal/strconv.uint64pow10", "math/bits.deBruijn32tab", "math/bits.deBruijn64tab"], apart := false, laid := [("math/bits.deBruijn32tab", laid_math_bits_deBruijn32tab), ("math/bits.deBruijn64tab", laid_math_bits_deBruijn64tab), ("internal/strconv.uint64pow10", laid_internal_strconv_uint64pow10), ("kilowatt/civil.lengths", laid_kilowatt_civil_lengths)], narrowed := true }
def CivilNamesUptoSaid : Prop := civilNamesUptoRow.holds Tryd.pinned (OpenSpec.upto civilNamesSpec)

/-- 'kilowattlaw06.CivilBack', WHERE WHAT IT READS IS OF BULK AT MOST 1048576: true; the input reads as it did. -/
def civilBackUptoRow : OpenClaim := { program := "ytjlejpenegjbcaadoor", sum := "ac612f045b10a9aceb9e4b98c589c5b0df8db12840e7341c5a540ff9f6ce2a39", func := "kilowatt/kilowattlaw06.CivilBack", spec := "civilBack", inPlace := ["internal/abi.NoEscape", "internal/bytealg.MakeNoZero"], unfollowed := true, recurses := true, named := ["kilowatt/civil.lengths", "internal/strconv.uint64pow10", "math/bits.deBruijn32tab", "math/bits.deBruijn64tab"], apart := false, laid := [("math/bits.deBruijn32tab", laid_math_bits_deBruijn32tab), ("math/bits.deBruijn64tab", laid_math_bits_deBruijn64tab), ("internal/strconv.uint64pow10", laid_internal_strconv_uint64pow10), ("kilowatt/civil.lengths", laid_kilowatt_civil_lengths)], narrowed := true }
def CivilBackUptoSaid : Prop := civilBackUptoRow.holds Tryd.pinned (OpenSpec.upto civilBackSpec)

/-- 'kilowattlaw06.CivilNext', WHERE WHAT IT READS IS OF BULK AT MOST 1048576: true; the input reads as it did. -/
def civilNextUptoRow : OpenClaim := { program := "ytjlejpenegjbcaadoor", sum := "ac612f045b10a9aceb9e4b98c589c5b0df8db12840e7341c5a540ff9f6ce2a39", func := "kilowatt/kilowattlaw06.CivilNext", spec := "civilNext", unfollowed := true, recurses := true, named := ["kilowatt/civil.lengths"], apart := false, laid := [("kilowatt/civil.lengths", laid_kilowatt_civil_lengths)], narrowed := true }
def CivilNextUptoSaid : Prop := civilNextUptoRow.holds Tryd.pinned (OpenSpec.upto civilNextSpec)

/-- 'kilowattlaw06.CivilNths', WHERE WHAT IT READS IS OF BULK AT MOST 1048576: true; the input reads as it did. -/
def civilNthsUptoRow : OpenClaim := { program := "ytjlejpenegjbcaadoor", sum := "ac612f045b10a9aceb9e4b98c589c5b0df8db12840e7341c5a540ff9f6ce2a39", func := "kilowatt/kilowattlaw06.CivilNths", spec := "civilNths", unfollowed := true, recurses := true, named := ["kilowatt/civil.lengths"], apart := false, laid := [("kilowatt/civil.lengths", laid_kilowatt_civil_lengths)], narrowed := true }
def CivilNthsUptoSaid : Prop := civilNthsUptoRow.holds Tryd.pinned (OpenSpec.upto civilNthsSpec)

end Rows
end Go.Proofs.YtjlejpenegjbcaaDoor
