/- What the condition of the rows that list the library's tables gives the walks. -/
import Derived.Test.YtjlejpenegjbcaaDoorKLaid
import Derived.Test.YtjlejpenegjbcaaDoorKDig
namespace Go.Proofs.YtjlejpenegjbcaaDoor
open Go.ChangeShapes Go.WideShapes Go.ChangeAt Go.RowKit
theorem tPow : (Tryd.prog.globals[1]?).map (·.type) = some 104 := by kernel_rfl
theorem laid_pow {H : Type} : (Rows.laid_internal_strconv_uint64pow10 : DataW H) = Lib.tabData .u64 Lib.pow10Tab := by
  show DataW.agg _ = DataW.agg _
  rfl
theorem pow_of_var {W : World} {cs : Array Value} (h : W.var? Tryd.prog "internal/strconv.uint64pow10" = some cs) (e : cs.toList = Lib.pow10Tab.map fun z => Value.int .u64 z) : ∃ T fr, W.heap[1]? = some (.cells (Lib.pow10Tab.map fun z => Value.int .u64 z).toArray T fr) := by
  simp only [World.var?, gPow, Option.bind_some] at h
  split at h
  · rename_i c t fr hb
    cases h
    exact ⟨t, fr, by rw [hb, ← e, Array.toArray_toList]⟩
  · cases h
theorem of_laidM {W : World} (h : laidMetH Tryd.prog laidM W) : TabsM W := by
  rw [MakeChecks.laidMetH_plain _ _ _ (by kernel_rfl)] at h
  obtain ⟨ps, ⟨ga, ta, csa, fa, pa, qa, hga, hta, hva, hda, ⟨gb, tb, csb, fb, pb, qb, hgb, htb, hvb, hdb, ⟨g1, t1, cs1, f1, p1, q1, hg1, ht1, hv1, hd1, ⟨g0, t0, cs0, f0, p0, q0, hg0, ht0, hv0, hd0, _, _⟩, _⟩, _⟩, _⟩, _, _⟩ := h
  obtain rfl := Option.some.inj (gLengths.symm.trans hg0)
  obtain rfl := Option.some.inj (tLengths.symm.trans ht0)
  obtain rfl := Option.some.inj (gPow.symm.trans hg1)
  obtain rfl := Option.some.inj (tPow.symm.trans ht1)
  exact ⟨tabs_of_var hv0 (Lib.cells_of_tab Tryd.underlying61 Tryd.underlying3 (by kernel_rfl) (by kernel_rfl) (laid_lengths (H := Unit) ▸ hd0)),
    pow_of_var hv1 (Lib.cells_of_tab Tryd.underlying104 Tryd.underlying91 (by kernel_rfl) (by kernel_rfl) (laid_pow (H := Unit) ▸ hd1))⟩
set_option maxRecDepth 100000 in
theorem door_metM (os : Os) (args : Array Value) : laidMetH Tryd.prog laidM ((World.doorLaid Tryd.prog 29 os).forCall (fun _ _ => 0) ⟨#[], args, []⟩).memory :=
  laidMetH_of_parts3 (fuel := 8) (laidMet_of_run' 8 (by kernel_rfl) (by kernel_rfl)) (by kernel_rfl) (by kernel_rfl)
#print axioms of_laidM
end Go.Proofs.YtjlejpenegjbcaaDoor
