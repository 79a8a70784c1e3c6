/- What the rows' condition gives the walks: the two tables of kilowatt/sha. -/
import Derived.Test.YtkhhejkemkldgaaDoorRows
import Derived.Test.YtkhhejkemkldgaaDoorTie
import Derived.Test.YtkhhejkemkldgaaDoorSRound
import Derived.LaidMore
import Derived.Stop.Joined
import Derived.OpenShut
import Derived.ChangeOld
import Derived.ShutString
import Derived.Below
import Derived.WalkKit
import Derived.ProofKit
import Derived.MakeChecks
import Derived.Lib.LaidTab
namespace Go.Proofs.YtkhhejkemkldgaaDoor
open Go.ChangeShapes Go.WideShapes Go.ChangeAt Go.RowKit
def laidL : List (String × DataW Unit) := [("kilowatt/sha.initial", Rows.laid_kilowatt_sha_initial), ("kilowatt/sha.roots", Rows.laid_kilowatt_sha_roots)]
theorem gInitial : Tryd.prog.globalNamed "kilowatt/sha.initial" = some 1 := by kernel_rfl
theorem gRoots : Tryd.prog.globalNamed "kilowatt/sha.roots" = some 0 := by kernel_rfl
theorem tInitial : (Tryd.prog.globals[1]?).map (·.type) = some 27 := by kernel_rfl
theorem tRoots : (Tryd.prog.globals[0]?).map (·.type) = some 64 := by kernel_rfl
theorem laid_initial {H : Type} : (Rows.laid_kilowatt_sha_initial : DataW H) = Lib.tabData .u32 (initial.map fun (n : Nat) => (n : Int)) := rfl
theorem laid_roots {H : Type} : (Rows.laid_kilowatt_sha_roots : DataW H) = Lib.tabData .u32 (roots.map fun (n : Nat) => (n : Int)) := rfl
theorem var_cells {P : Program} {W : World} {n : String} {g : Nat} {cs : Array Value} (hg : P.globalNamed n = some g) (h : W.var? P n = some cs) : Tab W g cs := by
  simp only [World.var?, hg, Option.bind_some] at h
  split at h
  · rename_i c t fr hb
    cases h
    exact ⟨_, _, hb⟩
  · cases h
theorem nums_of_list (k : IntKind) : ∀ l : List Nat, ((l.map fun (n : Nat) => (n : Int)).map fun z => Value.int k z).toArray = nums k l.length (wf l) := by
  intro l
  apply Array.ext_getElem?
  intro i
  by_cases hi : i < l.length
  · rw [nums_get _ _ _ _ hi]; simp [wf, List.getD, hi]
  · rw [Array.getElem?_eq_none (by simp; omega), Array.getElem?_eq_none (by simp [nums]; omega)]
theorem of_laid {W : World} (h : laidMetH Tryd.prog laidL W) : Tabs W := by
  rw [MakeChecks.laidMetH_plain _ _ _ (by kernel_rfl)] at h
  obtain ⟨ps, ⟨g0, t0, cs0, f0, p0, q0, hg0, ht0, hv0, hd0, ⟨g1, t1, cs1, f1, p1, q1, hg1, ht1, hv1, hd1, _, _⟩, _⟩, _, _⟩ := h
  obtain rfl := Option.some.inj (gInitial.symm.trans hg0)
  obtain rfl := Option.some.inj (gRoots.symm.trans hg1)
  obtain rfl := Option.some.inj (tInitial.symm.trans ht0)
  obtain rfl := Option.some.inj (tRoots.symm.trans ht1)
  have e0 := Lib.cells_of_tab Tryd.underlying27 Tryd.underlying25 (by kernel_rfl) (by kernel_rfl) (laid_initial (H := Unit) ▸ hd0)
  have e1 := Lib.cells_of_tab Tryd.underlying64 Tryd.underlying25 (by kernel_rfl) (by kernel_rfl) (laid_roots (H := Unit) ▸ hd1)
  have c0 : cs0 = nums .u32 8 (wf initial) := by rw [← Array.toArray_toList (xs := cs0), e0]; exact nums_of_list .u32 initial
  have c1 : cs1 = nums .u32 64 (wf roots) := by rw [← Array.toArray_toList (xs := cs1), e1]; exact nums_of_list .u32 roots
  subst c0; subst c1
  exact ⟨var_cells gRoots hv1, var_cells gInitial hv0⟩
set_option maxRecDepth 100000 in
theorem door_met (os : Os) (args : Array Value) : laidMetH Tryd.prog laidL ((World.doorLaid Tryd.prog 19 os).forCall (fun _ _ => 0) ⟨#[], args, []⟩).memory :=
  laidMetH_of_parts3 (fuel := 8) (laidMet_of_run' 8 (by kernel_rfl) (by kernel_rfl)) (by kernel_rfl) (by kernel_rfl)
#print axioms of_laid
end Go.Proofs.YtkhhejkemkldgaaDoor
