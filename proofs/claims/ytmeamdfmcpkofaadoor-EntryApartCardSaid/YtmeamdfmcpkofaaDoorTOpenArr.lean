/- An array of 32 bytes that came in, as a list. -/
import Derived.Test.YtmeamdfmcpkofaaDoorTRow
import Derived.OpenShut
import Derived.ChangeArms
import Derived.WideShapes
import Derived.ShutString
import Derived.ChangeOld
import Derived.Stop.Joined
namespace Go.Proofs.YtmeamdfmcpkofaaDoor
open Go.ChangeShapes Go.WideShapes Go.RowKit
def numOf : Option Value → Int | some (.int _ n) => n | _ => 0
set_option maxRecDepth 100000 in
theorem open_arr {H : Type} {enc : TypeId × Value → H} {W : World} {base base2 : Nat} {sp : Nat → Bool} {held : Bool} {r : Reach} {v : Value} {d : DataW H} {p : List MemPlace}
    (hv : Value.okWide Tryd.prog W r base 24 v) (h : DataW.Trod enc Tryd.prog W base2 sp held 24 v d p) : ∃ h : List Int, v = .agg (nums .u8 32 (bf h)) ∧ (Bytes h ∧ h.length = 32) := by
  simp only [Value.okWide, Tryd.underlying24] at hv
  obtain ⟨cs, rfl, hsz, _⟩ := hv
  have c32 : Tryd.prog.cellsOf 24 = 32 := by kernel_rfl
  have c1 : Tryd.prog.cellsOf 5 = 1 := by kernel_rfl
  obtain ⟨fuel, hf⟩ := h
  obtain ⟨xs, m, _, ex, _, hl, hel⟩ := DataW.trod_array Tryd.underlying24 hf
  have all : ∀ j, j < 32 → ∃ n : Int, cs[j]? = some (.int .u8 n) ∧ 0 ≤ n ∧ n < 256 := by
    intro j hj
    have h1 := hel j hj
    rw [c1, Nat.mul_one, show xs[j]? = some xs[j] from List.getElem?_eq_getElem (by omega)] at h1
    obtain ⟨n, e1, _, hw⟩ := DataW.trod_int Tryd.underlying5 h1
    refine ⟨n, ?_, ?_⟩
    · have := congrArg (·[0]?) e1
      simpa [Value.cells, List.getElem?_take, List.getElem?_drop] using this
    · simp [Lit.wf, IntKind.min, IntKind.max, IntKind.bits, IntKind.signed] at hw; omega
  refine ⟨(List.range 32).map fun j => numOf cs[j]?, ?_, ?_, by simp⟩
  · refine congrArg Value.agg ?_
    apply Array.ext_getElem?
    intro i
    by_cases hi : i < 32
    · obtain ⟨n, e, _⟩ := all i hi
      rw [nums_get _ _ _ _ hi, e]
      simp [bf, List.getD, hi, e, numOf]
    · rw [Array.getElem?_eq_none (by omega), Array.getElem?_eq_none (by rw [nums_size]; omega)]
  · intro x hx
    simp only [List.mem_map, List.mem_range] at hx
    obtain ⟨j, hj, rfl⟩ := hx
    obtain ⟨n, e, h0, h1⟩ := all j hj
    rw [e]; exact ⟨h0, h1⟩
end Go.Proofs.YtmeamdfmcpkofaaDoor
