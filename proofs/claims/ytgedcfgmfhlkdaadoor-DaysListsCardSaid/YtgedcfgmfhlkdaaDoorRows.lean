/-
  NARROWER THAN 'FOR EVERY INPUT', by the rows' own cells (each row's printed sentence says how): DaysKinds: laid · DaysLists: laid · DaysNames: laid · DaysEaster: laid · DaysOne: laid · DaysNexts: laid.
  DERIVED. THE GIVEN ROWS OF THIS SEAT. 6 by the template 'for every input the law returns true; each argument reads behind the call as it read before'; 0 by the template 'total and deterministic' (their statements: YtgedcfgmfhlkdaaDoorTotals.lean).
  GIVEN WITH THE SEED: the statements are not yours to turn. If you find one false, say at which input.
  Laid BY PROGRAM, IN A SANDBOX (cutbox-rows.mjs): the forced cells as the released guide's own fill.sh prints them over the translation b5abda3c296731a9… (all of the seat's roots in one cut). By AI agents, Wed Nov 11 2026. No macro, syntax, notation, axiom, sorry.
-/
import Derived.Test.YtgedcfgmfhlkdaaDoorChecked
import GoSem.Claim
import GoSem.ClaimJoined
import GoSem.ClaimMapViews
import Derived.JoinedTies
import Derived.KernelRfl
namespace Go.Proofs.YtgedcfgmfhlkdaaDoor
/- THE CELL 'sum', in the pinned program and in every row, IS THE sha256 OF THE DUMP (.gsa) THAT YtgedcfgmfhlkdaaDoorProg.lean LOADS. Nothing in Lean hashes anything: it is a label: what it is worth is what the hold of that sum in a sandbox is worth. -/
noncomputable def Tryd.pinned : Pinned := { name := "ytgedcfgmfhlkdaadoor", sum := "b5abda3c296731a959974d29d87d285024738bb2241f0698a4c919f27b27f3bb", checked := Tryd.checked }
namespace Rows
def none {H : Type} : Left H := { results := [], args := [] }

/- WHAT THE LISTED PACKAGE-LEVEL VARIABLES READ AS WHEN THE CALL BEGINS. Each datum BY PROGRAM (the guide's laid-datum.mjs) off the statement by which the dump's own 'gosem.cut.vars' lays the variable. In a bare row this is a premise. The card (YtgedcfgmfhlkdaaDoorCards.lean) ties it to the program's text. -/
def laid_kilowatt_civil_lengths {H : Type} : DataW H := .agg [.lit (.int .i64 31), .lit (.int .i64 28), .lit (.int .i64 31), .lit (.int .i64 30), .lit (.int .i64 31), .lit (.int .i64 30), .lit (.int .i64 31), .lit (.int .i64 31), .lit (.int .i64 30), .lit (.int .i64 31), .lit (.int .i64 30), .lit (.int .i64 31)]

/-- 'kilowattlaw08.DaysKinds': WHATEVER THE INPUT: true; the input reads as it did. -/
def daysKindsSpec : ChangeSpec := { name := "daysKinds", fn := fun _ => fun
  | [d1, d2] => { results := [.lit (.bool true)], args := [d1, d2] }
  | _ => none }
def daysKindsRow : OpenClaim := { program := "ytgedcfgmfhlkdaadoor", sum := "b5abda3c296731a959974d29d87d285024738bb2241f0698a4c919f27b27f3bb", func := "kilowatt/kilowattlaw08.DaysKinds", spec := "daysKinds", unfollowed := true, recurses := true, named := ["kilowatt/civil.lengths"], apart := false, laid := [("kilowatt/civil.lengths", laid_kilowatt_civil_lengths)] }
def DaysKindsSaid : Prop := daysKindsRow.holds Tryd.pinned (OpenSpec.ofChange daysKindsSpec)

/-- ITS FALSE NEIGHBOUR: 'it returns false'. Refute it at one input. -/
def daysKindsWrong : ChangeSpec := { name := "daysKinds", fn := fun _ => fun
  | [d1, d2] => { results := [.lit (.bool false)], args := [d1, d2] }
  | _ => none }
def DaysKindsWrongFalsely : Prop := daysKindsRow.holds Tryd.pinned (OpenSpec.ofChange daysKindsWrong)

/-- 'kilowattlaw08.DaysLists': WHATEVER THE INPUT: true; the input reads as it did. -/
def daysListsSpec : ChangeSpec := { name := "daysLists", fn := fun _ => fun
  | [d1, d2, d3, d4] => { results := [.lit (.bool true)], args := [d1, d2, d3, d4] }
  | _ => none }
def daysListsRow : OpenClaim := { program := "ytgedcfgmfhlkdaadoor", sum := "b5abda3c296731a959974d29d87d285024738bb2241f0698a4c919f27b27f3bb", func := "kilowatt/kilowattlaw08.DaysLists", spec := "daysLists", unfollowed := true, recurses := true, named := ["kilowatt/civil.lengths"], apart := false, laid := [("kilowatt/civil.lengths", laid_kilowatt_civil_lengths)] }
def DaysListsSaid : Prop := daysListsRow.holds Tryd.pinned (OpenSpec.ofChange daysListsSpec)

/-- ITS FALSE NEIGHBOUR: 'it returns false'. Refute it at one input. -/
def daysListsWrong : ChangeSpec := { name := "daysLists", fn := fun _ => fun
  | [d1, d2, d3, d4] => { results := [.lit (.bool false)], args := [d1, d2, d3, d4] }
  | _ => none }
def DaysListsWrongFalsely : Prop := daysListsRow.holds Tryd.pinned (OpenSpec.ofChange daysListsWrong)

/-- 'kilowattlaw08.DaysNames': WHATEVER THE INPUT: true; the input reads as it did. -/
def daysNamesSpec : ChangeSpec := { name := "daysNames", fn := fun _ => fun
  | [] => { results := [.lit (.bool true)], args := [] }
  | _ => none }
def daysNamesRow : OpenClaim := { program := "ytgedcfgmfhlkdaadoor", sum := "b5abda3c296731a959974d29d87d285024738bb2241f0698a4c919f27b27f3bb", func := "kilowatt/kilowattlaw08.DaysNames", spec := "daysNames", unfollowed := true, recurses := true, named := ["kilowatt/civil.lengths"], apart := false, laid := [("kilowatt/civil.lengths", laid_kilowatt_civil_lengths)] }
def DaysNamesSaid : Prop := daysNamesRow.holds Tryd.pinned (OpenSpec.ofChange daysNamesSpec)

/-- ITS FALSE NEIGHBOUR: 'it returns false'. Refute it at one input. -/
def daysNamesWrong : ChangeSpec := { name := "daysNames", fn := fun _ => fun
  | [] => { results := [.lit (.bool false)], args := [] }
  | _ => none }
def DaysNamesWrongFalsely : Prop := daysNamesRow.holds Tryd.pinned (OpenSpec.ofChange daysNamesWrong)

/-- 'kilowattlaw08.DaysEaster': WHATEVER THE INPUT: true; the input reads as it did. -/
def daysEasterSpec : ChangeSpec := { name := "daysEaster", fn := fun _ => fun
  | [d] => { results := [.lit (.bool true)], args := [d] }
  | _ => none }
def daysEasterRow : OpenClaim := { program := "ytgedcfgmfhlkdaadoor", sum := "b5abda3c296731a959974d29d87d285024738bb2241f0698a4c919f27b27f3bb", func := "kilowatt/kilowattlaw08.DaysEaster", spec := "daysEaster", unfollowed := true, recurses := true, named := ["kilowatt/civil.lengths"], apart := false, laid := [("kilowatt/civil.lengths", laid_kilowatt_civil_lengths)] }
def DaysEasterSaid : Prop := daysEasterRow.holds Tryd.pinned (OpenSpec.ofChange daysEasterSpec)

/-- ITS FALSE NEIGHBOUR: 'it returns false'. Refute it at one input. -/
def daysEasterWrong : ChangeSpec := { name := "daysEaster", fn := fun _ => fun
  | [d] => { results := [.lit (.bool false)], args := [d] }
  | _ => none }
def DaysEasterWrongFalsely : Prop := daysEasterRow.holds Tryd.pinned (OpenSpec.ofChange daysEasterWrong)

/-- 'kilowattlaw08.DaysOne': WHATEVER THE INPUT: true; the input reads as it did. -/
def daysOneSpec : ChangeSpec := { name := "daysOne", fn := fun _ => fun
  | [d1, d2, d3] => { results := [.lit (.bool true)], args := [d1, d2, d3] }
  | _ => none }
def daysOneRow : OpenClaim := { program := "ytgedcfgmfhlkdaadoor", sum := "b5abda3c296731a959974d29d87d285024738bb2241f0698a4c919f27b27f3bb", func := "kilowatt/kilowattlaw08.DaysOne", spec := "daysOne", unfollowed := true, recurses := true, named := ["kilowatt/civil.lengths"], apart := false, laid := [("kilowatt/civil.lengths", laid_kilowatt_civil_lengths)] }
def DaysOneSaid : Prop := daysOneRow.holds Tryd.pinned (OpenSpec.ofChange daysOneSpec)

/-- ITS FALSE NEIGHBOUR: 'it returns false'. Refute it at one input. -/
def daysOneWrong : ChangeSpec := { name := "daysOne", fn := fun _ => fun
  | [d1, d2, d3] => { results := [.lit (.bool false)], args := [d1, d2, d3] }
  | _ => none }
def DaysOneWrongFalsely : Prop := daysOneRow.holds Tryd.pinned (OpenSpec.ofChange daysOneWrong)

/-- 'kilowattlaw08.DaysNexts': WHATEVER THE INPUT: true; the input reads as it did. -/
def daysNextsSpec : ChangeSpec := { name := "daysNexts", fn := fun _ => fun
  | [d1, d2, d3] => { results := [.lit (.bool true)], args := [d1, d2, d3] }
  | _ => none }
def daysNextsRow : OpenClaim := { program := "ytgedcfgmfhlkdaadoor", sum := "b5abda3c296731a959974d29d87d285024738bb2241f0698a4c919f27b27f3bb", func := "kilowatt/kilowattlaw08.DaysNexts", spec := "daysNexts", unfollowed := true, recurses := true, named := ["kilowatt/civil.lengths"], apart := false, laid := [("kilowatt/civil.lengths", laid_kilowatt_civil_lengths)] }
def DaysNextsSaid : Prop := daysNextsRow.holds Tryd.pinned (OpenSpec.ofChange daysNextsSpec)

/-- ITS FALSE NEIGHBOUR: 'it returns false'. Refute it at one input. -/
def daysNextsWrong : ChangeSpec := { name := "daysNexts", fn := fun _ => fun
  | [d1, d2, d3] => { results := [.lit (.bool false)], args := [d1, d2, d3] }
  | _ => none }
def DaysNextsWrongFalsely : Prop := daysNextsRow.holds Tryd.pinned (OpenSpec.ofChange daysNextsWrong)

/- THE SECOND FORM. 'bulk': how many values and letters a reading holds, each counted each time it is reached (what is shared counts as often as it is met; a slice's spare places count too). A statement '..UptoSaid' is the law's where the arguments, and the package variables that the reading takes, are together of bulk at most 1048576: NARROWER than '..Said'. Prove '..Said' where nothing that the law and all that it calls make is longer than what came in: it says more and counts as full. Else prove '..UptoSaid'. A law counts once. -/
mutual
def uptoBulk {H : Type} : DataW H → Nat
  | .lit (.string bytes) => bytes.length + 1
  | .lit _ => 1
  | .nil => 1
  | .ptr d => uptoBulk d + 1
  | .slice elems spare => uptoBulkAll elems + uptoBulkAll spare + 1
  | .agg parts => uptoBulkAll parts + 1
  | .iface _ d => uptoBulk d + 1
  | .map entries => uptoBulkEntries entries + 1
  | .held _ => 1
def uptoBulkAll {H : Type} : List (DataW H) → Nat
  | [] => 0
  | d :: r => uptoBulk d + uptoBulkAll r
def uptoBulkEntries {H : Type} : List (Lit × DataW H) → Nat
  | [] => 0
  | x :: r => uptoBulkEntry x + uptoBulkEntries r
def uptoBulkEntry {H : Type} : Lit × DataW H → Nat
  | (.string bytes, d) => bytes.length + uptoBulk d + 1
  | (_, d) => uptoBulk d + 1
 end
def uptoSmall : (H : Type) → List (DataW H) → Bool := fun _ ds => decide (uptoBulkAll ds ≤ 1048576)
def OpenSpec.upto (s : _root_.Go.ChangeSpec) : _root_.Go.OpenSpec := { _root_.Go.OpenSpec.ofChange s with cond := some uptoSmall }

/-- 'kilowattlaw08.DaysKinds', WHERE WHAT IT READS IS OF BULK AT MOST 1048576: true; the input reads as it did. -/
def daysKindsUptoRow : OpenClaim := { program := "ytgedcfgmfhlkdaadoor", sum := "b5abda3c296731a959974d29d87d285024738bb2241f0698a4c919f27b27f3bb", func := "kilowatt/kilowattlaw08.DaysKinds", spec := "daysKinds", unfollowed := true, recurses := true, named := ["kilowatt/civil.lengths"], apart := false, laid := [("kilowatt/civil.lengths", laid_kilowatt_civil_lengths)], narrowed := true }
def DaysKindsUptoSaid : Prop := daysKindsUptoRow.holds Tryd.pinned (OpenSpec.upto daysKindsSpec)

/-- 'kilowattlaw08.DaysLists', WHERE WHAT IT READS IS OF BULK AT MOST 1048576: true; the input reads as it did. -/
def daysListsUptoRow : OpenClaim := { program := "ytgedcfgmfhlkdaadoor", sum := "b5abda3c296731a959974d29d87d285024738bb2241f0698a4c919f27b27f3bb", func := "kilowatt/kilowattlaw08.DaysLists", spec := "daysLists", unfollowed := true, recurses := true, named := ["kilowatt/civil.lengths"], apart := false, laid := [("kilowatt/civil.lengths", laid_kilowatt_civil_lengths)], narrowed := true }
def DaysListsUptoSaid : Prop := daysListsUptoRow.holds Tryd.pinned (OpenSpec.upto daysListsSpec)

/-- 'kilowattlaw08.DaysNames', WHERE WHAT IT READS IS OF BULK AT MOST 1048576: true; the input reads as it did. -/
def daysNamesUptoRow : OpenClaim := { program := "ytgedcfgmfhlkdaadoor", sum := "b5abda3c296731a959974d29d87d285024738bb2241f0698a4c919f27b27f3bb", func := "kilowatt/kilowattlaw08.DaysNames", spec := "daysNames", unfollowed := true, recurses := true, named := ["kilowatt/civil.lengths"], apart := false, laid := [("kilowatt/civil.lengths", laid_kilowatt_civil_lengths)], narrowed := true }
def DaysNamesUptoSaid : Prop := daysNamesUptoRow.holds Tryd.pinned (OpenSpec.upto daysNamesSpec)

/-- 'kilowattlaw08.DaysEaster', WHERE WHAT IT READS IS OF BULK AT MOST 1048576: true; the input reads as it did. -/
def daysEasterUptoRow : OpenClaim := { program := "ytgedcfgmfhlkdaadoor", sum := "b5abda3c296731a959974d29d87d285024738bb2241f0698a4c919f27b27f3bb", func := "kilowatt/kilowattlaw08.DaysEaster", spec := "daysEaster", unfollowed := true, recurses := true, named := ["kilowatt/civil.lengths"], apart := false, laid := [("kilowatt/civil.lengths", laid_kilowatt_civil_lengths)], narrowed := true }
def DaysEasterUptoSaid : Prop := daysEasterUptoRow.holds Tryd.pinned (OpenSpec.upto daysEasterSpec)

/-- 'kilowattlaw08.DaysOne', WHERE WHAT IT READS IS OF BULK AT MOST 1048576: true; the input reads as it did. -/
def daysOneUptoRow : OpenClaim := { program := "ytgedcfgmfhlkdaadoor", sum := "b5abda3c296731a959974d29d87d285024738bb2241f0698a4c919f27b27f3bb", func := "kilowatt/kilowattlaw08.DaysOne", spec := "daysOne", unfollowed := true, recurses := true, named := ["kilowatt/civil.lengths"], apart := false, laid := [("kilowatt/civil.lengths", laid_kilowatt_civil_lengths)], narrowed := true }
def DaysOneUptoSaid : Prop := daysOneUptoRow.holds Tryd.pinned (OpenSpec.upto daysOneSpec)

/-- 'kilowattlaw08.DaysNexts', WHERE WHAT IT READS IS OF BULK AT MOST 1048576: true; the input reads as it did. -/
def daysNextsUptoRow : OpenClaim := { program := "ytgedcfgmfhlkdaadoor", sum := "b5abda3c296731a959974d29d87d285024738bb2241f0698a4c919f27b27f3bb", func := "kilowatt/kilowattlaw08.DaysNexts", spec := "daysNexts", unfollowed := true, recurses := true, named := ["kilowatt/civil.lengths"], apart := false, laid := [("kilowatt/civil.lengths", laid_kilowatt_civil_lengths)], narrowed := true }
def DaysNextsUptoSaid : Prop := daysNextsUptoRow.holds Tryd.pinned (OpenSpec.upto daysNextsSpec)

end Rows
end Go.Proofs.YtgedcfgmfhlkdaaDoor
