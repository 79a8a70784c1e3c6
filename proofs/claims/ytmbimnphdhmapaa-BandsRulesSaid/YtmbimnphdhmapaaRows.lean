/-
  No cell of these rows narrows 'for every input' (looked for: loops, veiled, ifaces, maps, wideKeys, modest, calm, conditions, laid).
  DERIVED. THE GIVEN ROWS OF THIS SEAT. 5 by the template 'for every input the law returns true; each argument reads behind the call as it read before'; 0 by the template 'total and deterministic' (their statements: YtmbimnphdhmapaaTotals.lean).
  GIVEN WITH THE SEED: the statements are not yours to turn. If you find one false, say at which input.
  Laid BY PROGRAM, IN A SANDBOX (cutbox-rows.mjs): the forced cells as the released guide's own fill.sh prints them over the translation 500588141fea20c3… (all of the seat's roots in one cut). By AI agents, Wed Nov 11 2026. No macro, syntax, notation, axiom, sorry.
-/
import Derived.Test.YtmbimnphdhmapaaChecked
import GoSem.Claim
import GoSem.ClaimJoined
import GoSem.ClaimMapViews
import Derived.JoinedTies
import Derived.KernelRfl
namespace Go.Proofs.Ytmbimnphdhmapaa
/- THE CELL 'sum', in the pinned program and in every row, IS THE sha256 OF THE DUMP (.gsa) THAT YtmbimnphdhmapaaProg.lean LOADS. Nothing in Lean hashes anything: it is a label: what it is worth is what the hold of that sum in a sandbox is worth. -/
noncomputable def Try.pinned : Pinned := { name := "ytmbimnphdhmapaa", sum := "500588141fea20c373c610a6df5f70dec1610a837bb75189406ad98266b20fc3", checked := Try.checked }
namespace Rows
def none {H : Type} : Left H := { results := [], args := [] }

/-- 'kilowattlaw09.BandsPlans': WHATEVER THE INPUT: true; the input reads as it did. -/
def bandsPlansSpec : ChangeSpec := { name := "bandsPlans", fn := fun _ => fun
  | [d1, d2, d3] => { results := [.lit (.bool true)], args := [d1, d2, d3] }
  | _ => none }
def bandsPlansRow : OpenClaim := { program := "ytmbimnphdhmapaa", sum := "500588141fea20c373c610a6df5f70dec1610a837bb75189406ad98266b20fc3", func := "kilowatt/kilowattlaw09.BandsPlans", spec := "bandsPlans", unfollowed := true, recurses := true, apart := false }
def BandsPlansSaid : Prop := bandsPlansRow.holds Try.pinned (OpenSpec.ofChange bandsPlansSpec)

/-- ITS FALSE NEIGHBOUR: 'it returns false'. Refute it at one input. -/
def bandsPlansWrong : ChangeSpec := { name := "bandsPlans", fn := fun _ => fun
  | [d1, d2, d3] => { results := [.lit (.bool false)], args := [d1, d2, d3] }
  | _ => none }
def BandsPlansWrongFalsely : Prop := bandsPlansRow.holds Try.pinned (OpenSpec.ofChange bandsPlansWrong)

/-- 'kilowattlaw09.BandsTables': WHATEVER THE INPUT: true; the input reads as it did. -/
def bandsTablesSpec : ChangeSpec := { name := "bandsTables", fn := fun _ => fun
  | [d1, d2, d3] => { results := [.lit (.bool true)], args := [d1, d2, d3] }
  | _ => none }
def bandsTablesRow : OpenClaim := { program := "ytmbimnphdhmapaa", sum := "500588141fea20c373c610a6df5f70dec1610a837bb75189406ad98266b20fc3", func := "kilowatt/kilowattlaw09.BandsTables", spec := "bandsTables", unfollowed := true, recurses := true, apart := false }
def BandsTablesSaid : Prop := bandsTablesRow.holds Try.pinned (OpenSpec.ofChange bandsTablesSpec)

/-- ITS FALSE NEIGHBOUR: 'it returns false'. Refute it at one input. -/
def bandsTablesWrong : ChangeSpec := { name := "bandsTables", fn := fun _ => fun
  | [d1, d2, d3] => { results := [.lit (.bool false)], args := [d1, d2, d3] }
  | _ => none }
def BandsTablesWrongFalsely : Prop := bandsTablesRow.holds Try.pinned (OpenSpec.ofChange bandsTablesWrong)

/-- 'kilowattlaw09.BandsDay': WHATEVER THE INPUT: true; the input reads as it did. -/
def bandsDaySpec : ChangeSpec := { name := "bandsDay", fn := fun _ => fun
  | [d] => { results := [.lit (.bool true)], args := [d] }
  | _ => none }
def bandsDayRow : OpenClaim := { program := "ytmbimnphdhmapaa", sum := "500588141fea20c373c610a6df5f70dec1610a837bb75189406ad98266b20fc3", func := "kilowatt/kilowattlaw09.BandsDay", spec := "bandsDay", unfollowed := true, recurses := true, apart := false }
def BandsDaySaid : Prop := bandsDayRow.holds Try.pinned (OpenSpec.ofChange bandsDaySpec)

/-- ITS FALSE NEIGHBOUR: 'it returns false'. Refute it at one input. -/
def bandsDayWrong : ChangeSpec := { name := "bandsDay", fn := fun _ => fun
  | [d] => { results := [.lit (.bool false)], args := [d] }
  | _ => none }
def BandsDayWrongFalsely : Prop := bandsDayRow.holds Try.pinned (OpenSpec.ofChange bandsDayWrong)

/-- 'kilowattlaw09.BandsRules': WHATEVER THE INPUT: true; the input reads as it did. -/
def bandsRulesSpec : ChangeSpec := { name := "bandsRules", fn := fun _ => fun
  | [d1, d2, d3, d4] => { results := [.lit (.bool true)], args := [d1, d2, d3, d4] }
  | _ => none }
def bandsRulesRow : OpenClaim := { program := "ytmbimnphdhmapaa", sum := "500588141fea20c373c610a6df5f70dec1610a837bb75189406ad98266b20fc3", func := "kilowatt/kilowattlaw09.BandsRules", spec := "bandsRules", unfollowed := true, recurses := true, apart := false }
def BandsRulesSaid : Prop := bandsRulesRow.holds Try.pinned (OpenSpec.ofChange bandsRulesSpec)

/-- ITS FALSE NEIGHBOUR: 'it returns false'. Refute it at one input. -/
def bandsRulesWrong : ChangeSpec := { name := "bandsRules", fn := fun _ => fun
  | [d1, d2, d3, d4] => { results := [.lit (.bool false)], args := [d1, d2, d3, d4] }
  | _ => none }
def BandsRulesWrongFalsely : Prop := bandsRulesRow.holds Try.pinned (OpenSpec.ofChange bandsRulesWrong)

/-- 'kilowattlaw09.BandsSame': WHATEVER THE INPUT: true; the input reads as it did. -/
def bandsSameSpec : ChangeSpec := { name := "bandsSame", fn := fun _ => fun
  | [d1, d2] => { results := [.lit (.bool true)], args := [d1, d2] }
  | _ => none }
def bandsSameRow : OpenClaim := { program := "ytmbimnphdhmapaa", sum := "500588141fea20c373c610a6df5f70dec1610a837bb75189406ad98266b20fc3", func := "kilowatt/kilowattlaw09.BandsSame", spec := "bandsSame", unfollowed := true, recurses := true, apart := false }
def BandsSameSaid : Prop := bandsSameRow.holds Try.pinned (OpenSpec.ofChange bandsSameSpec)

/-- ITS FALSE NEIGHBOUR: 'it returns false'. Refute it at one input. -/
def bandsSameWrong : ChangeSpec := { name := "bandsSame", fn := fun _ => fun
  | [d1, d2] => { results := [.lit (.bool false)], args := [d1, d2] }
  | _ => none }
def BandsSameWrongFalsely : Prop := bandsSameRow.holds Try.pinned (OpenSpec.ofChange bandsSameWrong)

/- THE SECOND FORM. 'bulk': how many values and letters a reading holds, each counted each time it is reached (what is shared counts as often as it is met; a slice's spare places count too). A statement '..UptoSaid' is the law's where the arguments, and the package variables that the reading takes, are together of bulk at most 1048576: NARROWER than '..Said'. Prove '..Said' where nothing that the law and all that it calls make is longer than what came in: it says more and counts as full. Else prove '..UptoSaid'. A law counts once. -/
mutual
def uptoBulk {H : Type} : DataW H → Nat
  | .lit (.string bytes) => bytes.length + 1
  | .lit _ => 1
  | .nil => 1
  | .ptr d => uptoBulk d + 1
  | .slice elems spare => uptoBulkAll elems + uptoBulkAll spare + 1
  | .agg parts => uptoBulkAll parts + 1
  | .iface _ d => uptoBulk d + 1
  | .map entries => uptoBulkEntries entries + 1
  | .held _ => 1
def uptoBulkAll {H : Type} : List (DataW H) → Nat
  | [] => 0
  | d :: r => uptoBulk d + uptoBulkAll r
def uptoBulkEntries {H : Type} : List (Lit × DataW H) → Nat
  | [] => 0
  | x :: r => uptoBulkEntry x + uptoBulkEntries r
def uptoBulkEntry {H : Type} : Lit × DataW H → Nat
  | (.string bytes, d) => bytes.length + uptoBulk d + 1
  | (_, d) => uptoBulk d + 1
 end
def uptoSmall : (H : Type) → List (DataW H) → Bool := fun _ ds => decide (uptoBulkAll ds ≤ 1048576)
def OpenSpec.upto (s : _root_.Go.ChangeSpec) : _root_.Go.OpenSpec := { _root_.Go.OpenSpec.ofChange s with cond := some uptoSmall }

/-- 'kilowattlaw09.BandsPlans', WHERE WHAT IT READS IS OF BULK AT MOST 1048576: true; the input reads as it did. -/
def bandsPlansUptoRow : OpenClaim := { program := "ytmbimnphdhmapaa", sum := "500588141fea20c373c610a6df5f70dec1610a837bb75189406ad98266b20fc3", func := "kilowatt/kilowattlaw09.BandsPlans", spec := "bandsPlans", unfollowed := true, recurses := true, apart := false, narrowed := true }
def BandsPlansUptoSaid : Prop := bandsPlansUptoRow.holds Try.pinned (OpenSpec.upto bandsPlansSpec)

/-- 'kilowattlaw09.BandsTables', WHERE WHAT IT READS IS OF BULK AT MOST 1048576: true; the input reads as it did. -/
def bandsTablesUptoRow : OpenClaim := { program := "ytmbimnphdhmapaa", sum := "500588141fea20c373c610a6df5f70dec1610a837bb75189406ad98266b20fc3", func := "kilowatt/kilowattlaw09.BandsTables", spec := "bandsTables", unfollowed := true, recurses := true, apart := false, narrowed := true }
def BandsTablesUptoSaid : Prop := bandsTablesUptoRow.holds Try.pinned (OpenSpec.upto bandsTablesSpec)

/-- 'kilowattlaw09.BandsDay', WHERE WHAT IT READS IS OF BULK AT MOST 1048576: true; the input reads as it did. -/
def bandsDayUptoRow : OpenClaim := { program := "ytmbimnphdhmapaa", sum := "500588141fea20c373c610a6df5f70dec1610a837bb75189406ad98266b20fc3", func := "kilowatt/kilowattlaw09.BandsDay", spec := "bandsDay", unfollowed := true, recurses := true, apart := false, narrowed := true }
def BandsDayUptoSaid : Prop := bandsDayUptoRow.holds Try.pinned (OpenSpec.upto bandsDaySpec)

/-- 'kilowattlaw09.BandsRules', WHERE WHAT IT READS IS OF BULK AT MOST 1048576: true; the input reads as it did. -/
def bandsRulesUptoRow : OpenClaim := { program := "ytmbimnphdhmapaa", sum := "500588141fea20c373c610a6df5f70dec1610a837bb75189406ad98266b20fc3", func := "kilowatt/kilowattlaw09.BandsRules", spec := "bandsRules", unfollowed := true, recurses := true, apart := false, narrowed := true }
def BandsRulesUptoSaid : Prop := bandsRulesUptoRow.holds Try.pinned (OpenSpec.upto bandsRulesSpec)

/-- 'kilowattlaw09.BandsSame', WHERE WHAT IT READS IS OF BULK AT MOST 1048576: true; the input reads as it did. -/
def bandsSameUptoRow : OpenClaim := { program := "ytmbimnphdhmapaa", sum := "500588141fea20c373c610a6df5f70dec1610a837bb75189406ad98266b20fc3", func := "kilowatt/kilowattlaw09.BandsSame", spec := "bandsSame", unfollowed := true, recurses := true, apart := false, narrowed := true }
def BandsSameUptoSaid : Prop := bandsSameUptoRow.holds Try.pinned (OpenSpec.upto bandsSameSpec)

end Rows
end Go.Proofs.Ytmbimnphdhmapaa
