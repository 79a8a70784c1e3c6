/- What the rows' condition gives the walks: the table of kilowatt/civil, and those of the library. -/
import Derived.Test.YtbffmobjiiicoaaDoorRows
import Derived.Test.YtbffmobjiiicoaaDoorTie
import Derived.Test.YtbffmobjiiicoaaDoorJK1
import Derived.LaidMore
import Derived.Stop.Joined
import Derived.OpenShut
import Derived.ChangeOld
import Derived.ShutString
import Derived.Below
import Derived.WalkKit
import Derived.ProofKit
import Derived.MakeChecks
import Derived.Lib.LaidTab
namespace Go.Proofs.YtbffmobjiiicoaaDoor
open Go.ChangeShapes Go.WideShapes Go.ChangeAt Go.RowKit
def laidL : List (String × DataW Unit) := [("kilowatt/civil.lengths", Rows.laid_kilowatt_civil_lengths)]
theorem gLengths : Tryd.prog.globalNamed "kilowatt/civil.lengths" = some 2 := by kernel_rfl
theorem tLengths : (Tryd.prog.globals[2]?).map (·.type) = some 178 := by kernel_rfl
theorem laid_lengths {H : Type} : (Rows.laid_kilowatt_civil_lengths : DataW H) = Lib.tabData .i64 lens := rfl
theorem tabs_of_var {W : World} {cs : Array Value} (h : W.var? Tryd.prog "kilowatt/civil.lengths" = some cs) (e : cs.toList = lens.map fun z => Value.int .i64 z) : Tabs W := by
  simp only [World.var?, gLengths, Option.bind_some] at h
  split at h
  · rename_i c t fr hb
    cases h
    exact ⟨t, fr, by rw [hb, ← e, Array.toArray_toList]⟩
  · cases h
theorem of_laid {W : World} (h : laidMetH Tryd.prog laidL W) : Tabs W := by
  rw [MakeChecks.laidMetH_plain _ _ _ (by kernel_rfl)] at h
  obtain ⟨ps, ⟨g0, t0, cs0, f0, p0, q0, hg0, ht0, hv0, hd0, _, _⟩, _, _⟩ := h
  obtain rfl := Option.some.inj (gLengths.symm.trans hg0)
  obtain rfl := Option.some.inj (tLengths.symm.trans ht0)
  exact tabs_of_var hv0 (Lib.cells_of_tab Tryd.underlying178 Tryd.underlying3 (by kernel_rfl) (by kernel_rfl) (laid_lengths (H := Unit) ▸ hd0))
set_option maxRecDepth 100000 in
theorem door_met (os : Os) (args : Array Value) : laidMetH Tryd.prog laidL ((World.doorLaid Tryd.prog 14 os).forCall (fun _ _ => 0) ⟨#[], args, []⟩).memory :=
  laidMetH_of_parts3 (fuel := 8) (laidMet_of_run' 8 (by kernel_rfl) (by kernel_rfl)) (by kernel_rfl) (by kernel_rfl)
#print axioms of_laid
end Go.Proofs.YtbffmobjiiicoaaDoor
