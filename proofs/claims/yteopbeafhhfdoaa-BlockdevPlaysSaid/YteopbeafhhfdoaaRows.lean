/-
  No cell of these rows narrows 'for every input' (looked for: loops, veiled, ifaces, maps, wideKeys, modest, calm, conditions, laid).
  DERIVED. THE GIVEN ROWS OF THIS SEAT. 4 by the template 'for every input the law returns true; each argument reads behind the call as it read before'; 0 by the template 'total and deterministic' (their statements: YteopbeafhhfdoaaTotals.lean).
  GIVEN WITH THE SEED: the statements are not yours to turn. If you find one false, say at which input.
  Laid BY PROGRAM, IN A SANDBOX (cutbox-rows.mjs): the forced cells as the released guide's own fill.sh prints them over the translation dd97d64245c90b43… (all of the seat's roots in one cut). By AI agents, Wed Nov 11 2026. No macro, syntax, notation, axiom, sorry.
-/
import Derived.Test.YteopbeafhhfdoaaChecked
import GoSem.Claim
import GoSem.ClaimJoined
import GoSem.ClaimMapViews
import Derived.JoinedTies
import Derived.KernelRfl
namespace Go.Proofs.Yteopbeafhhfdoaa
/- THE CELL 'sum', in the pinned program and in every row, IS THE sha256 OF THE DUMP (.gsa) THAT YteopbeafhhfdoaaProg.lean LOADS. Nothing in Lean hashes anything: it is a label: what it is worth is what the hold of that sum in a sandbox is worth. -/
noncomputable def Try.pinned : Pinned := { name := "yteopbeafhhfdoaa", sum := "dd97d64245c90b43d233c463e67367606264ac3a1bf5a1c5cda6434beb18ee06", checked := Try.checked }
namespace Rows
def none {H : Type} : Left H := { results := [], args := [] }

/-- 'kilowattlaw12.BlockdevPlays': WHATEVER THE INPUT: true; the input reads as it did. -/
def blockdevPlaysSpec : ChangeSpec := { name := "blockdevPlays", fn := fun _ => fun
  | [d1, d2] => { results := [.lit (.bool true)], args := [d1, d2] }
  | _ => none }
def blockdevPlaysRow : OpenClaim := { program := "yteopbeafhhfdoaa", sum := "dd97d64245c90b43d233c463e67367606264ac3a1bf5a1c5cda6434beb18ee06", func := "kilowatt/kilowattlaw12.BlockdevPlays", spec := "blockdevPlays", unfollowed := true, recurses := true, apart := false }
def BlockdevPlaysSaid : Prop := blockdevPlaysRow.holds Try.pinned (OpenSpec.ofChange blockdevPlaysSpec)

/-- ITS FALSE NEIGHBOUR: 'it returns false'. Refute it at one input. -/
def blockdevPlaysWrong : ChangeSpec := { name := "blockdevPlays", fn := fun _ => fun
  | [d1, d2] => { results := [.lit (.bool false)], args := [d1, d2] }
  | _ => none }
def BlockdevPlaysWrongFalsely : Prop := blockdevPlaysRow.holds Try.pinned (OpenSpec.ofChange blockdevPlaysWrong)

/-- 'kilowattlaw12.BlockdevNames': WHATEVER THE INPUT: true; the input reads as it did. -/
def blockdevNamesSpec : ChangeSpec := { name := "blockdevNames", fn := fun _ => fun
  | [] => { results := [.lit (.bool true)], args := [] }
  | _ => none }
def blockdevNamesRow : OpenClaim := { program := "yteopbeafhhfdoaa", sum := "dd97d64245c90b43d233c463e67367606264ac3a1bf5a1c5cda6434beb18ee06", func := "kilowatt/kilowattlaw12.BlockdevNames", spec := "blockdevNames", unfollowed := true, recurses := true, apart := false }
def BlockdevNamesSaid : Prop := blockdevNamesRow.holds Try.pinned (OpenSpec.ofChange blockdevNamesSpec)

/-- ITS FALSE NEIGHBOUR: 'it returns false'. Refute it at one input. -/
def blockdevNamesWrong : ChangeSpec := { name := "blockdevNames", fn := fun _ => fun
  | [] => { results := [.lit (.bool false)], args := [] }
  | _ => none }
def BlockdevNamesWrongFalsely : Prop := blockdevNamesRow.holds Try.pinned (OpenSpec.ofChange blockdevNamesWrong)

/-- 'kilowattlaw12.BlockdevKeeps': WHATEVER THE INPUT: true; the input reads as it did. -/
def blockdevKeepsSpec : ChangeSpec := { name := "blockdevKeeps", fn := fun _ => fun
  | [d1, d2, d3] => { results := [.lit (.bool true)], args := [d1, d2, d3] }
  | _ => none }
def blockdevKeepsRow : OpenClaim := { program := "yteopbeafhhfdoaa", sum := "dd97d64245c90b43d233c463e67367606264ac3a1bf5a1c5cda6434beb18ee06", func := "kilowatt/kilowattlaw12.BlockdevKeeps", spec := "blockdevKeeps", unfollowed := true, recurses := true, apart := false }
def BlockdevKeepsSaid : Prop := blockdevKeepsRow.holds Try.pinned (OpenSpec.ofChange blockdevKeepsSpec)

/-- ITS FALSE NEIGHBOUR: 'it returns false'. Refute it at one input. -/
def blockdevKeepsWrong : ChangeSpec := { name := "blockdevKeeps", fn := fun _ => fun
  | [d1, d2, d3] => { results := [.lit (.bool false)], args := [d1, d2, d3] }
  | _ => none }
def BlockdevKeepsWrongFalsely : Prop := blockdevKeepsRow.holds Try.pinned (OpenSpec.ofChange blockdevKeepsWrong)

/-- 'kilowattlaw12.BlockdevDown': WHATEVER THE INPUT: true; the input reads as it did. -/
def blockdevDownSpec : ChangeSpec := { name := "blockdevDown", fn := fun _ => fun
  | [d1, d2, d3] => { results := [.lit (.bool true)], args := [d1, d2, d3] }
  | _ => none }
def blockdevDownRow : OpenClaim := { program := "yteopbeafhhfdoaa", sum := "dd97d64245c90b43d233c463e67367606264ac3a1bf5a1c5cda6434beb18ee06", func := "kilowatt/kilowattlaw12.BlockdevDown", spec := "blockdevDown", unfollowed := true, recurses := true, apart := false }
def BlockdevDownSaid : Prop := blockdevDownRow.holds Try.pinned (OpenSpec.ofChange blockdevDownSpec)

/-- ITS FALSE NEIGHBOUR: 'it returns false'. Refute it at one input. -/
def blockdevDownWrong : ChangeSpec := { name := "blockdevDown", fn := fun _ => fun
  | [d1, d2, d3] => { results := [.lit (.bool false)], args := [d1, d2, d3] }
  | _ => none }
def BlockdevDownWrongFalsely : Prop := blockdevDownRow.holds Try.pinned (OpenSpec.ofChange blockdevDownWrong)

/- THE SECOND FORM. 'bulk': how many values and letters a reading holds, each counted each time it is reached (what is shared counts as often as it is met; a slice's spare places count too). A statement '..UptoSaid' is the law's where the arguments, and the package variables that the reading takes, are together of bulk at most 1048576: NARROWER than '..Said'. Prove '..Said' where nothing that the law and all that it calls make is longer than what came in: it says more and counts as full. Else prove '..UptoSaid'. A law counts once. -/
mutual
def uptoBulk {H : Type} : DataW H → Nat
  | .lit (.string bytes) => bytes.length + 1
  | .lit _ => 1
  | .nil => 1
  | .ptr d => uptoBulk d + 1
  | .slice elems spare => uptoBulkAll elems + uptoBulkAll spare + 1
  | .agg parts => uptoBulkAll parts + 1
  | .iface _ d => uptoBulk d + 1
  | .map entries => uptoBulkEntries entries + 1
  | .held _ => 1
def uptoBulkAll {H : Type} : List (DataW H) → Nat
  | [] => 0
  | d :: r => uptoBulk d + uptoBulkAll r
def uptoBulkEntries {H : Type} : List (Lit × DataW H) → Nat
  | [] => 0
  | x :: r => uptoBulkEntry x + uptoBulkEntries r
def uptoBulkEntry {H : Type} : Lit × DataW H → Nat
  | (.string bytes, d) => bytes.length + uptoBulk d + 1
  | (_, d) => uptoBulk d + 1
 end
def uptoSmall : (H : Type) → List (DataW H) → Bool := fun _ ds => decide (uptoBulkAll ds ≤ 1048576)
def OpenSpec.upto (s : _root_.Go.ChangeSpec) : _root_.Go.OpenSpec := { _root_.Go.OpenSpec.ofChange s with cond := some uptoSmall }

/-- 'kilowattlaw12.BlockdevPlays', WHERE WHAT IT READS IS OF BULK AT MOST 1048576: true; the input reads as it did. -/
def blockdevPlaysUptoRow : OpenClaim := { program := "yteopbeafhhfdoaa", sum := "dd97d64245c90b43d233c463e67367606264ac3a1bf5a1c5cda6434beb18ee06", func := "kilowatt/kilowattlaw12.BlockdevPlays", spec := "blockdevPlays", unfollowed := true, recurses := true, apart := false, narrowed := true }
def BlockdevPlaysUptoSaid : Prop := blockdevPlaysUptoRow.holds Try.pinned (OpenSpec.upto blockdevPlaysSpec)

/-- 'kilowattlaw12.BlockdevNames', WHERE WHAT IT READS IS OF BULK AT MOST 1048576: true; the input reads as it did. -/
def blockdevNamesUptoRow : OpenClaim := { program := "yteopbeafhhfdoaa", sum := "dd97d64245c90b43d233c463e67367606264ac3a1bf5a1c5cda6434beb18ee06", func := "kilowatt/kilowattlaw12.BlockdevNames", spec := "blockdevNames", unfollowed := true, recurses := true, apart := false, narrowed := true }
def BlockdevNamesUptoSaid : Prop := blockdevNamesUptoRow.holds Try.pinned (OpenSpec.upto blockdevNamesSpec)

/-- 'kilowattlaw12.BlockdevKeeps', WHERE WHAT IT READS IS OF BULK AT MOST 1048576: true; the input reads as it did. -/
def blockdevKeepsUptoRow : OpenClaim := { program := "yteopbeafhhfdoaa", sum := "dd97d64245c90b43d233c463e67367606264ac3a1bf5a1c5cda6434beb18ee06", func := "kilowatt/kilowattlaw12.BlockdevKeeps", spec := "blockdevKeeps", unfollowed := true, recurses := true, apart := false, narrowed := true }
def BlockdevKeepsUptoSaid : Prop := blockdevKeepsUptoRow.holds Try.pinned (OpenSpec.upto blockdevKeepsSpec)

/-- 'kilowattlaw12.BlockdevDown', WHERE WHAT IT READS IS OF BULK AT MOST 1048576: true; the input reads as it did. -/
def blockdevDownUptoRow : OpenClaim := { program := "yteopbeafhhfdoaa", sum := "dd97d64245c90b43d233c463e67367606264ac3a1bf5a1c5cda6434beb18ee06", func := "kilowatt/kilowattlaw12.BlockdevDown", spec := "blockdevDown", unfollowed := true, recurses := true, apart := false, narrowed := true }
def BlockdevDownUptoSaid : Prop := blockdevDownUptoRow.holds Try.pinned (OpenSpec.upto blockdevDownSpec)

end Rows
end Go.Proofs.Yteopbeafhhfdoaa
