/-
  NARROWER THAN 'FOR EVERY INPUT', by the rows' own cells (each row's printed sentence says how): EntryBytes: laid · EntryLines: laid · EntryNames: laid · EntryBack: laid · EntryApart: laid · EntryPlain: laid.
  DERIVED. THE GIVEN ROWS OF THIS SEAT. 6 by the template 'for every input the law returns true; each argument reads behind the call as it read before'; 0 by the template 'total and deterministic' (their statements: YtmeamdfmcpkofaaDoorTotals.lean).
  GIVEN WITH THE SEED: the statements are not yours to turn. If you find one false, say at which input.
  Laid BY PROGRAM, IN A SANDBOX (cutbox-rows.mjs): the forced cells as the released guide's own fill.sh prints them over the translation 32f7d82b4950b2cf… (all of the seat's roots in one cut). By AI agents, Wed Nov 11 2026. No macro, syntax, notation, axiom, sorry.
-/
import Derived.Test.YtmeamdfmcpkofaaDoorChecked
import GoSem.Claim
import GoSem.ClaimJoined
import GoSem.ClaimMapViews
import Derived.JoinedTies
import Derived.KernelRfl
namespace Go.Proofs.YtmeamdfmcpkofaaDoor
/- THE CELL 'sum', in the pinned program and in every row, IS THE sha256 OF THE DUMP (.gsa) THAT YtmeamdfmcpkofaaDoorProg.lean LOADS. Nothing in Lean hashes anything: it is a label: what it is worth is what the hold of that sum in a sandbox is worth. -/
noncomputable def Tryd.pinned : Pinned := { name := "ytmeamdfmcpkofaadoor", sum := "32f7d82b4950b2cf0057c4a0cee647eedc3a225c581ae78a582a21314708b979", checked := Tryd.checked }
namespace Rows
def none {H : Type} : Left H := { results := [], args := [] }

/- WHAT THE LISTED PACKAGE-LEVEL VARIABLES READ AS WHEN THE CALL BEGINS. Each datum BY PROGRAM (the guide's laid-datum.mjs) off the statement by which the dump's own 'gosem.cut.vars' lays the variable. In a bare row this is a premise. The card (YtmeamdfmcpkofaaDoorCards.lean) ties it to the program's text. -/
def laid_kilowatt_entry_words {H : Type} : DataW H := .agg [.lit (.string []), .lit (.string [105, 110, 116, 101, 114, 118, 97, 108]), .lit (.string [115, 117, 115, 112, 101, 99, 116]), .lit (.string [114, 101, 112, 108, 97, 99, 101]), .lit (.string [99, 111, 114, 114, 101, 99, 116]), .lit (.string [115, 101, 97, 108])]
def laid_kilowatt_entry_layouts {H : Type} : DataW H := .agg [.nil, .slice [.lit (.int .i64 0), .lit (.int .i64 1), .lit (.int .i64 2), .lit (.int .i64 3), .lit (.int .i64 4), .lit (.int .i64 5), .lit (.int .i64 6)] [], .slice [.lit (.int .i64 0), .lit (.int .i64 1), .lit (.int .i64 7)] [], .slice [.lit (.int .i64 0), .lit (.int .i64 1), .lit (.int .i64 7), .lit (.int .i64 8), .lit (.int .i64 9)] [], .slice [.lit (.int .i64 0), .lit (.int .i64 3), .lit (.int .i64 2), .lit (.int .i64 5), .lit (.int .i64 8), .lit (.int .i64 9)] [], .slice [.lit (.int .i64 8), .lit (.int .i64 9)] []]
def laid_kilowatt_entry_sizes {H : Type} : DataW H := .agg [.lit (.int .i64 1), .lit (.int .i64 8), .lit (.int .i64 8), .lit (.int .i64 1), .lit (.int .i64 8), .lit (.int .i64 8), .lit (.int .i64 1), .lit (.int .i64 4), .lit (.int .i64 8), .lit (.int .i64 32)]
def laid_kilowatt_entry_limits {H : Type} : DataW H := .agg [.lit (.int .u64 63), .lit (.int .u64 253402300799), .lit (.int .u64 4611686018427387904), .lit (.int .u64 7), .lit (.int .u64 1073741824), .lit (.int .u64 4611686018427387904), .lit (.int .u64 15), .lit (.int .u64 4294967295), .lit (.int .u64 18446744073709551615)]
def laid_math_bits_deBruijn32tab {H : Type} : DataW H := .agg [.lit (.int .u8 0), .lit (.int .u8 1), .lit (.int .u8 28), .lit (.int .u8 2), .lit (.int .u8 29), .lit (.int .u8 14), .lit (.int .u8 24), .lit (.int .u8 3), .lit (.int .u8 30), .lit (.int .u8 22), .lit (.int .u8 20), .lit (.int .u8 15), .lit (.int .u8 25), .lit (.int .u8 17), .lit (.int .u8 4), .lit (.int .u8 8), .lit (.int .u8 31), .lit (.int .u8 27), .lit (.int .u8 13), .lit (.int .u8 23), .lit (.int .u8 21), .lit (.int .u8 19), .lit (.int .u8 16), .lit (.int .u8 7), .lit (.int .u8 26), .lit (.int .u8 12), .lit (.int .u8 18), .lit (.int .u8 6), .lit (.int .u8 11), .lit (.int .u8 5), .lit (.int .u8 10), .lit (.int .u8 9)]
def laid_math_bits_deBruijn64tab {H : Type} : DataW H := .agg [.lit (.int .u8 0), .lit (.int .u8 1), .lit (.int .u8 56), .lit (.int .u8 2), .lit (.int .u8 57), .lit (.int .u8 49), .lit (.int .u8 28), .lit (.int .u8 3), .lit (.int .u8 61), .lit (.int .u8 58), .lit (.int .u8 42), .lit (.int .u8 50), .lit (.int .u8 38), .lit (.int .u8 29), .lit (.int .u8 17), .lit (.int .u8 4), .lit (.int .u8 62), .lit (.int .u8 47), .lit (.int .u8 59), .lit (.int .u8 36), .lit (.int .u8 45), .lit (.int .u8 43), .lit (.int .u8 51), .lit (.int .u8 22), .lit (.int .u8 53), .lit (.int .u8 39), .lit (.int .u8 33), .lit (.int .u8 30), .lit (.int .u8 24), .lit (.int .u8 18), .lit (.int .u8 12), .lit (.int .u8 5), .lit (.int .u8 63), .lit (.int .u8 55), .lit (.int .u8 48), .lit (.int .u8 27), .lit (.int .u8 60), .lit (.int .u8 41), .lit (.int .u8 37), .lit (.int .u8 16), .lit (.int .u8 46), .lit (.int .u8 35), .lit (.int .u8 44), .lit (.int .u8 21), .lit (.int .u8 52), .lit (.int .u8 32), .lit (.int .u8 23), .lit (.int .u8 11), .lit (.int .u8 54), .lit (.int .u8 26), .lit (.int .u8 40), .lit (.int .u8 15), .lit (.int .u8 34), .lit (.int .u8 20), .lit (.int .u8 31), .lit (.int .u8 10), .lit (.int .u8 25), .lit (.int .u8 14), .lit (.int .u8 19), .lit (.int .u8 9), .lit (.int .u8 13), .lit (.int .u8 8), .lit (.int .u8 7), .lit (.int .u8 6)]
def laid_internal_strconv_uint64pow10 {H : Type} : DataW H := .agg [.lit (.int .u64 1), .lit (.int .u64 10), .lit (.int .u64 100), .lit (.int .u64 1000), .lit (.int .u64 10000), .lit (.int .u64 100000), .lit (.int .u64 1000000), .lit (.int .u64 10000000), .lit (.int .u64 100000000), .lit (.int .u64 1000000000), .lit (.int .u64 10000000000), .lit (.int .u64 100000000000), .lit (.int .u64 1000000000000), .lit (.int .u64 10000000000000), .lit (.int .u64 100000000000000), .lit (.int .u64 1000000000000000), .lit (.int .u64 10000000000000000), .lit (.int .u64 100000000000000000), .lit (.int .u64 1000000000000000000), .lit (.int .u64 10000000000000000000)]
def laid_strconv_ErrRange {H : Type} : DataW H := .iface "*errors.errorString" (.ptr (.agg [.lit (.string [118, 97, 108, 117, 101, 32, 111, 117, 116, 32, 111, 102, 32, 114, 97, 110, 103, 101])]))
def laid_strconv_ErrSyntax {H : Type} : DataW H := .iface "*errors.errorString" (.ptr (.agg [.lit (.string [105, 110, 118, 97, 108, 105, 100, 32, 115, 121, 110, 116, 97, 120])]))

/-- 'kilowattlaw15.EntryBytes': WHATEVER THE INPUT: true; the input reads as it did. -/
def entryBytesSpec : ChangeSpec := { name := "entryBytes", fn := fun _ => fun
  | [d1, d2] => { results := [.lit (.bool true)], args := [d1, d2] }
  | _ => none }
def entryBytesRow : OpenClaim := { program := "ytmeamdfmcpkofaadoor", sum := "32f7d82b4950b2cf0057c4a0cee647eedc3a225c581ae78a582a21314708b979", func := "kilowatt/kilowattlaw15.EntryBytes", spec := "entryBytes", unfollowed := true, recurses := true, named := ["kilowatt/entry.words", "kilowatt/entry.layouts", "kilowatt/entry.sizes", "kilowatt/entry.limits"], apart := false, laid := [("kilowatt/entry.words", laid_kilowatt_entry_words), ("kilowatt/entry.layouts", laid_kilowatt_entry_layouts), ("kilowatt/entry.sizes", laid_kilowatt_entry_sizes), ("kilowatt/entry.limits", laid_kilowatt_entry_limits)] }
def EntryBytesSaid : Prop := entryBytesRow.holds Tryd.pinned (OpenSpec.ofChange entryBytesSpec)

/-- ITS FALSE NEIGHBOUR: 'it returns false'. Refute it at one input. -/
def entryBytesWrong : ChangeSpec := { name := "entryBytes", fn := fun _ => fun
  | [d1, d2] => { results := [.lit (.bool false)], args := [d1, d2] }
  | _ => none }
def EntryBytesWrongFalsely : Prop := entryBytesRow.holds Tryd.pinned (OpenSpec.ofChange entryBytesWrong)

/-- 'kilowattlaw15.EntryLines': WHATEVER THE INPUT: true; the input reads as it did. -/
def entryLinesSpec : ChangeSpec := { name := "entryLines", fn := fun _ => fun
  | [d1, d2, d3] => { results := [.lit (.bool true)], args := [d1, d2, d3] }
  | _ => none }
def entryLinesRow : OpenClaim := { program := "ytmeamdfmcpkofaadoor", sum := "32f7d82b4950b2cf0057c4a0cee647eedc3a225c581ae78a582a21314708b979", func := "kilowatt/kilowattlaw15.EntryLines", spec := "entryLines", inPlace := ["internal/abi.NoEscape", "internal/bytealg.MakeNoZero", "internal/bytealg.IndexByteString", "internal/bytealg.IndexString"], unfollowed := true, recurses := true, named := ["kilowatt/entry.words", "kilowatt/entry.layouts", "kilowatt/entry.sizes", "kilowatt/entry.limits", "internal/strconv.uint64pow10", "math/bits.deBruijn32tab", "math/bits.deBruijn64tab", "internal/bytealg.MaxLen", "strconv.ErrSyntax", "strconv.ErrRange"], apart := false, laid := [("math/bits.deBruijn32tab", laid_math_bits_deBruijn32tab), ("math/bits.deBruijn64tab", laid_math_bits_deBruijn64tab), ("internal/strconv.uint64pow10", laid_internal_strconv_uint64pow10), ("strconv.ErrRange", laid_strconv_ErrRange), ("strconv.ErrSyntax", laid_strconv_ErrSyntax), ("kilowatt/entry.words", laid_kilowatt_entry_words), ("kilowatt/entry.layouts", laid_kilowatt_entry_layouts), ("kilowatt/entry.sizes", laid_kilowatt_entry_sizes), ("kilowatt/entry.limits", laid_kilowatt_entry_limits)] }
def EntryLinesSaid : Prop := entryLinesRow.holds Tryd.pinned (OpenSpec.ofChange entryLinesSpec)

/-- ITS FALSE NEIGHBOUR: 'it returns false'. Refute it at one input. -/
def entryLinesWrong : ChangeSpec := { name := "entryLines", fn := fun _ => fun
  | [d1, d2, d3] => { results := [.lit (.bool false)], args := [d1, d2, d3] }
  | _ => none }
def EntryLinesWrongFalsely : Prop := entryLinesRow.holds Tryd.pinned (OpenSpec.ofChange entryLinesWrong)

/-- 'kilowattlaw15.EntryNames': WHATEVER THE INPUT: true; the input reads as it did. -/
def entryNamesSpec : ChangeSpec := { name := "entryNames", fn := fun _ => fun
  | [] => { results := [.lit (.bool true)], args := [] }
  | _ => none }
def entryNamesRow : OpenClaim := { program := "ytmeamdfmcpkofaadoor", sum := "32f7d82b4950b2cf0057c4a0cee647eedc3a225c581ae78a582a21314708b979", func := "kilowatt/kilowattlaw15.EntryNames", spec := "entryNames", inPlace := ["internal/bytealg.IndexByteString", "internal/bytealg.IndexString", "internal/abi.NoEscape", "internal/bytealg.MakeNoZero"], unfollowed := true, recurses := true, named := ["internal/bytealg.MaxLen", "kilowatt/entry.words", "kilowatt/entry.layouts", "kilowatt/entry.sizes", "kilowatt/entry.limits", "strconv.ErrSyntax", "strconv.ErrRange", "internal/strconv.uint64pow10", "math/bits.deBruijn32tab", "math/bits.deBruijn64tab"], apart := false, laid := [("math/bits.deBruijn32tab", laid_math_bits_deBruijn32tab), ("math/bits.deBruijn64tab", laid_math_bits_deBruijn64tab), ("internal/strconv.uint64pow10", laid_internal_strconv_uint64pow10), ("strconv.ErrRange", laid_strconv_ErrRange), ("strconv.ErrSyntax", laid_strconv_ErrSyntax), ("kilowatt/entry.words", laid_kilowatt_entry_words), ("kilowatt/entry.layouts", laid_kilowatt_entry_layouts), ("kilowatt/entry.sizes", laid_kilowatt_entry_sizes), ("kilowatt/entry.limits", laid_kilowatt_entry_limits)] }
def EntryNamesSaid : Prop := entryNamesRow.holds Tryd.pinned (OpenSpec.ofChange entryNamesSpec)

/-- ITS FALSE NEIGHBOUR: 'it returns false'. Refute it at one input. -/
def entryNamesWrong : ChangeSpec := { name := "entryNames", fn := fun _ => fun
  | [] => { results := [.lit (.bool false)], args := [] }
  | _ => none }
def EntryNamesWrongFalsely : Prop := entryNamesRow.holds Tryd.pinned (OpenSpec.ofChange entryNamesWrong)

/-- 'kilowattlaw15.EntryBack': WHATEVER THE INPUT: true; the input reads as it did. -/
def entryBackSpec : ChangeSpec := { name := "entryBack", fn := fun _ => fun
  | [d1, d2, d3] => { results := [.lit (.bool true)], args := [d1, d2, d3] }
  | _ => none }
def entryBackRow : OpenClaim := { program := "ytmeamdfmcpkofaadoor", sum := "32f7d82b4950b2cf0057c4a0cee647eedc3a225c581ae78a582a21314708b979", func := "kilowatt/kilowattlaw15.EntryBack", spec := "entryBack", inPlace := ["internal/abi.NoEscape", "internal/bytealg.MakeNoZero", "internal/bytealg.IndexByteString", "internal/bytealg.IndexString"], unfollowed := true, recurses := true, named := ["kilowatt/entry.words", "kilowatt/entry.layouts", "kilowatt/entry.sizes", "kilowatt/entry.limits", "internal/strconv.uint64pow10", "math/bits.deBruijn32tab", "math/bits.deBruijn64tab", "internal/bytealg.MaxLen", "strconv.ErrSyntax", "strconv.ErrRange"], apart := false, laid := [("math/bits.deBruijn32tab", laid_math_bits_deBruijn32tab), ("math/bits.deBruijn64tab", laid_math_bits_deBruijn64tab), ("internal/strconv.uint64pow10", laid_internal_strconv_uint64pow10), ("strconv.ErrRange", laid_strconv_ErrRange), ("strconv.ErrSyntax", laid_strconv_ErrSyntax), ("kilowatt/entry.words", laid_kilowatt_entry_words), ("kilowatt/entry.layouts", laid_kilowatt_entry_layouts), ("kilowatt/entry.sizes", laid_kilowatt_entry_sizes), ("kilowatt/entry.limits", laid_kilowatt_entry_limits)] }
def EntryBackSaid : Prop := entryBackRow.holds Tryd.pinned (OpenSpec.ofChange entryBackSpec)

/-- ITS FALSE NEIGHBOUR: 'it returns false'. Refute it at one input. -/
def entryBackWrong : ChangeSpec := { name := "entryBack", fn := fun _ => fun
  | [d1, d2, d3] => { results := [.lit (.bool false)], args := [d1, d2, d3] }
  | _ => none }
def EntryBackWrongFalsely : Prop := entryBackRow.holds Tryd.pinned (OpenSpec.ofChange entryBackWrong)

/-- 'kilowattlaw15.EntryApart': WHATEVER THE INPUT: true; the input reads as it did. -/
def entryApartSpec : ChangeSpec := { name := "entryApart", fn := fun _ => fun
  | [d1, d2] => { results := [.lit (.bool true)], args := [d1, d2] }
  | _ => none }
def entryApartRow : OpenClaim := { program := "ytmeamdfmcpkofaadoor", sum := "32f7d82b4950b2cf0057c4a0cee647eedc3a225c581ae78a582a21314708b979", func := "kilowatt/kilowattlaw15.EntryApart", spec := "entryApart", inPlace := ["internal/abi.NoEscape", "internal/bytealg.MakeNoZero"], unfollowed := true, recurses := true, named := ["kilowatt/entry.words", "kilowatt/entry.layouts", "kilowatt/entry.sizes", "kilowatt/entry.limits", "internal/strconv.uint64pow10", "math/bits.deBruijn32tab", "math/bits.deBruijn64tab"], apart := false, laid := [("math/bits.deBruijn32tab", laid_math_bits_deBruijn32tab), ("math/bits.deBruijn64tab", laid_math_bits_deBruijn64tab), ("internal/strconv.uint64pow10", laid_internal_strconv_uint64pow10), ("kilowatt/entry.words", laid_kilowatt_entry_words), ("kilowatt/entry.layouts", laid_kilowatt_entry_layouts), ("kilowatt/entry.sizes", laid_kilowatt_entry_sizes), ("kilowatt/entry.limits", laid_kilowatt_entry_limits)] }
def EntryApartSaid : Prop := entryApartRow.holds Tryd.pinned (OpenSpec.ofChange entryApartSpec)

/-- ITS FALSE NEIGHBOUR: 'it returns false'. Refute it at one input. -/
def entryApartWrong : ChangeSpec := { name := "entryApart", fn := fun _ => fun
  | [d1, d2] => { results := [.lit (.bool false)], args := [d1, d2] }
  | _ => none }
def EntryApartWrongFalsely : Prop := entryApartRow.holds Tryd.pinned (OpenSpec.ofChange entryApartWrong)

/-- 'kilowattlaw15.EntryPlain': WHATEVER THE INPUT: true; the input reads as it did. -/
def entryPlainSpec : ChangeSpec := { name := "entryPlain", fn := fun _ => fun
  | [d1, d2] => { results := [.lit (.bool true)], args := [d1, d2] }
  | _ => none }
def entryPlainRow : OpenClaim := { program := "ytmeamdfmcpkofaadoor", sum := "32f7d82b4950b2cf0057c4a0cee647eedc3a225c581ae78a582a21314708b979", func := "kilowatt/kilowattlaw15.EntryPlain", spec := "entryPlain", inPlace := ["internal/abi.NoEscape", "internal/bytealg.MakeNoZero"], unfollowed := true, recurses := true, named := ["kilowatt/entry.words", "kilowatt/entry.layouts", "kilowatt/entry.sizes", "kilowatt/entry.limits", "internal/strconv.uint64pow10", "math/bits.deBruijn32tab", "math/bits.deBruijn64tab"], apart := false, laid := [("math/bits.deBruijn32tab", laid_math_bits_deBruijn32tab), ("math/bits.deBruijn64tab", laid_math_bits_deBruijn64tab), ("internal/strconv.uint64pow10", laid_internal_strconv_uint64pow10), ("kilowatt/entry.words", laid_kilowatt_entry_words), ("kilowatt/entry.layouts", laid_kilowatt_entry_layouts), ("kilowatt/entry.sizes", laid_kilowatt_entry_sizes), ("kilowatt/entry.limits", laid_kilowatt_entry_limits)] }
def EntryPlainSaid : Prop := entryPlainRow.holds Tryd.pinned (OpenSpec.ofChange entryPlainSpec)

/-- ITS FALSE NEIGHBOUR: 'it returns false'. Refute it at one input. -/
def entryPlainWrong : ChangeSpec := { name := "entryPlain", fn := fun _ => fun
  | [d1, d2] => { results := [.lit (.bool false)], args := [d1, d2] }
  | _ => none }
def EntryPlainWrongFalsely : Prop := entryPlainRow.holds Tryd.pinned (OpenSpec.ofChange entryPlainWrong)

/- THE SECOND FORM. 'bulk': how many values and letters a reading holds, each counted each time it is reached (what is shared counts as often as it is met; a slice's spare places count too). A statement '..UptoSaid' is the law's where the arguments, and the package variables that the reading takes, are together of bulk at most 1048576: NARROWER than '..Said'. Prove '..Said' where nothing that the law and all that it calls make is longer than what came in: it says more and counts as full. Else prove '..UptoSaid'. A law counts once. -/
mutual
def uptoBulk {H : Type} : DataW H → Nat
  | .lit (.string bytes) => bytes.length + 1
  | .lit _ => 1
  | .nil => 1
  | .ptr d => uptoBulk d + 1
  | .slice elems spare => uptoBulkAll elems + uptoBulkAll spare + 1
  | .agg parts => uptoBulkAll parts + 1
  | .iface _ d => uptoBulk d + 1
  | .map entries => uptoBulkEntries entries + 1
  | .held _ => 1
def uptoBulkAll {H : Type} : List (DataW H) → Nat
  | [] => 0
  | d :: r => uptoBulk d + uptoBulkAll r
def uptoBulkEntries {H : Type} : List (Lit × DataW H) → Nat
  | [] => 0
  | x :: r => uptoBulkEntry x + uptoBulkEntries r
def uptoBulkEntry {H : Type} : Lit × DataW H → Nat
  | (.string bytes, d) => bytes.length + uptoBulk d + 1
  | (_, d) => uptoBulk d + 1
 end
def uptoSmall : (H : Type) → List (DataW H) → Bool := fun _ ds => decide (uptoBulkAll ds ≤ 1048576)
def OpenSpec.upto (s : _root_.Go.ChangeSpec) : _root_.Go.OpenSpec := { _root_.Go.OpenSpec.ofChange s with cond := some uptoSmall }

/-- 'kilowattlaw15.EntryBytes', WHERE WHAT IT READS IS OF BULK AT MOST 1048576: true; the input reads as it did. -/
def entryBytesUptoRow : OpenClaim := { program := "ytmeamdfmcpkofaadoor", sum := "32f7d82b4950b2cf0057c4a0cee647eedc3a225c581ae78a582a21314708b979", func := "kilowatt/kilowattlaw15.EntryBytes", spec := "entryBytes", unfollowed := true, recurses := true, named := ["kilowatt/entry.words", "kilowatt/entry.layouts", "kilowatt/entry.sizes", "kilowatt/entry.limits"], apart := false, laid := [("kilowatt/entry.words", laid_kilowatt_entry_words), ("kilowatt/entry.layouts", laid_kilowatt_entry_layouts), ("kilowatt/entry.sizes", laid_kilowatt_entry_sizes), ("kilowatt/entry.limits", laid_kilowatt_entry_limits)], narrowed := true }
def EntryBytesUptoSaid : Prop := entryBytesUptoRow.holds Tryd.pinned (OpenSpec.upto entryBytesSpec)

/-- 'kilowattlaw15.EntryLines', WHERE WHAT IT READS IS OF BULK AT MOST 1048576: true; the input reads as it did. -/
def entryLinesUptoRow : OpenClaim := { program := "ytmeamdfmcpkofaadoor", sum := "32f7d82b4950b2cf0057c4a0cee647eedc3a225c581ae78a582a21314708b979", func := "kilowatt/kilowattlaw15.EntryLines", spec := "entryLines", inPlace := ["internal/abi.NoEscape", "internal/bytealg.MakeNoZero", "internal/bytealg.IndexByteString", "internal/bytealg.IndexString"], unfollowed := true, recurses := true, named := ["kilowatt/entry.words", "kilowatt/entry.layouts", "kilowatt/entry.sizes", "kilowatt/entry.limits", "internal/strconv.uint64pow10", "math/bits.deBruijn32tab", "math/bits.deBruijn64tab", "internal/bytealg.MaxLen", "strconv.ErrSyntax", "strconv.ErrRange"], apart := false, laid := [("math/bits.deBruijn32tab", laid_math_bits_deBruijn32tab), ("math/bits.deBruijn64tab", laid_math_bits_deBruijn64tab), ("internal/strconv.uint64pow10", laid_internal_strconv_uint64pow10), ("strconv.ErrRange", laid_strconv_ErrRange), ("strconv.ErrSyntax", laid_strconv_ErrSyntax), ("kilowatt/entry.words", laid_kilowatt_entry_words), ("kilowatt/entry.layouts", laid_kilowatt_entry_layouts), ("kilowatt/entry.sizes", laid_kilowatt_entry_sizes), ("kilowatt/entry.limits", laid_kilowatt_entry_limits)], narrowed := true }
def EntryLinesUptoSaid : Prop := entryLinesUptoRow.holds Tryd.pinned (OpenSpec.upto entryLinesSpec)

/-- 'kilowattlaw15.EntryNames', WHERE WHAT IT READS IS OF BULK AT MOST 1048576: true; the input reads as it did. -/
def entryNamesUptoRow : OpenClaim := { program := "ytmeamdfmcpkofaadoor", sum := "32f7d82b4950b2cf0057c4a0cee647eedc3a225c581ae78a582a21314708b979", func := "kilowatt/kilowattlaw15.EntryNames", spec := "entryNames", inPlace := ["internal/bytealg.IndexByteString", "internal/bytealg.IndexString", "internal/abi.NoEscape", "internal/bytealg.MakeNoZero"], unfollowed := true, recurses := true, named := ["internal/bytealg.MaxLen", "kilowatt/entry.words", "kilowatt/entry.layouts", "kilowatt/entry.sizes", "kilowatt/entry.limits", "strconv.ErrSyntax", "strconv.ErrRange", "internal/strconv.uint64pow10", "math/bits.deBruijn32tab", "math/bits.deBruijn64tab"], apart := false, laid := [("math/bits.deBruijn32tab", laid_math_bits_deBruijn32tab), ("math/bits.deBruijn64tab", laid_math_bits_deBruijn64tab), ("internal/strconv.uint64pow10", laid_internal_strconv_uint64pow10), ("strconv.ErrRange", laid_strconv_ErrRange), ("strconv.ErrSyntax", laid_strconv_ErrSyntax), ("kilowatt/entry.words", laid_kilowatt_entry_words), ("kilowatt/entry.layouts", laid_kilowatt_entry_layouts), ("kilowatt/entry.sizes", laid_kilowatt_entry_sizes), ("kilowatt/entry.limits", laid_kilowatt_entry_limits)], narrowed := true }
def EntryNamesUptoSaid : Prop := entryNamesUptoRow.holds Tryd.pinned (OpenSpec.upto entryNamesSpec)

/-- 'kilowattlaw15.EntryBack', WHERE WHAT IT READS IS OF BULK AT MOST 1048576: true; the input reads as it did. -/
def entryBackUptoRow : OpenClaim := { program := "ytmeamdfmcpkofaadoor", sum := "32f7d82b4950b2cf0057c4a0cee647eedc3a225c581ae78a582a21314708b979", func := "kilowatt/kilowattlaw15.EntryBack", spec := "entryBack", inPlace := ["internal/abi.NoEscape", "internal/bytealg.MakeNoZero", "internal/bytealg.IndexByteString", "internal/bytealg.IndexString"], unfollowed := true, recurses := true, named := ["kilowatt/entry.words", "kilowatt/entry.layouts", "kilowatt/entry.sizes", "kilowatt/entry.limits", "internal/strconv.uint64pow10", "math/bits.deBruijn32tab", "math/bits.deBruijn64tab", "internal/bytealg.MaxLen", "strconv.ErrSyntax", "strconv.ErrRange"], apart := false, laid := [("math/bits.deBruijn32tab", laid_math_bits_deBruijn32tab), ("math/bits.deBruijn64tab", laid_math_bits_deBruijn64tab), ("internal/strconv.uint64pow10", laid_internal_strconv_uint64pow10), ("strconv.ErrRange", laid_strconv_ErrRange), ("strconv.ErrSyntax", laid_strconv_ErrSyntax), ("kilowatt/entry.words", laid_kilowatt_entry_words), ("kilowatt/entry.layouts", laid_kilowatt_entry_layouts), ("kilowatt/entry.sizes", laid_kilowatt_entry_sizes), ("kilowatt/entry.limits", laid_kilowatt_entry_limits)], narrowed := true }
def EntryBackUptoSaid : Prop := entryBackUptoRow.holds Tryd.pinned (OpenSpec.upto entryBackSpec)

/-- 'kilowattlaw15.EntryApart', WHERE WHAT IT READS IS OF BULK AT MOST 1048576: true; the input reads as it did. -/
def entryApartUptoRow : OpenClaim := { program := "ytmeamdfmcpkofaadoor", sum := "32f7d82b4950b2cf0057c4a0cee647eedc3a225c581ae78a582a21314708b979", func := "kilowatt/kilowattlaw15.EntryApart", spec := "entryApart", inPlace := ["internal/abi.NoEscape", "internal/bytealg.MakeNoZero"], unfollowed := true, recurses := true, named := ["kilowatt/entry.words", "kilowatt/entry.layouts", "kilowatt/entry.sizes", "kilowatt/entry.limits", "internal/strconv.uint64pow10", "math/bits.deBruijn32tab", "math/bits.deBruijn64tab"], apart := false, laid := [("math/bits.deBruijn32tab", laid_math_bits_deBruijn32tab), ("math/bits.deBruijn64tab", laid_math_bits_deBruijn64tab), ("internal/strconv.uint64pow10", laid_internal_strconv_uint64pow10), ("kilowatt/entry.words", laid_kilowatt_entry_words), ("kilowatt/entry.layouts", laid_kilowatt_entry_layouts), ("kilowatt/entry.sizes", laid_kilowatt_entry_sizes), ("kilowatt/entry.limits", laid_kilowatt_entry_limits)], narrowed := true }
def EntryApartUptoSaid : Prop := entryApartUptoRow.holds Tryd.pinned (OpenSpec.upto entryApartSpec)

/-- 'kilowattlaw15.EntryPlain', WHERE WHAT IT READS IS OF BULK AT MOST 1048576: true; the input reads as it did. -/
def entryPlainUptoRow : OpenClaim := { program := "ytmeamdfmcpkofaadoor", sum := "32f7d82b4950b2cf0057c4a0cee647eedc3a225c581ae78a582a21314708b979", func := "kilowatt/kilowattlaw15.EntryPlain", spec := "entryPlain", inPlace := ["internal/abi.NoEscape", "internal/bytealg.MakeNoZero"], unfollowed := true, recurses := true, named := ["kilowatt/entry.words", "kilowatt/entry.layouts", "kilowatt/entry.sizes", "kilowatt/entry.limits", "internal/strconv.uint64pow10", "math/bits.deBruijn32tab", "math/bits.deBruijn64tab"], apart := false, laid := [("math/bits.deBruijn32tab", laid_math_bits_deBruijn32tab), ("math/bits.deBruijn64tab", laid_math_bits_deBruijn64tab), ("internal/strconv.uint64pow10", laid_internal_strconv_uint64pow10), ("kilowatt/entry.words", laid_kilowatt_entry_words), ("kilowatt/entry.layouts", laid_kilowatt_entry_layouts), ("kilowatt/entry.sizes", laid_kilowatt_entry_sizes), ("kilowatt/entry.limits", laid_kilowatt_entry_limits)], narrowed := true }
def EntryPlainUptoSaid : Prop := entryPlainUptoRow.holds Tryd.pinned (OpenSpec.upto entryPlainSpec)

end Rows
end Go.Proofs.YtmeamdfmcpkofaaDoor
