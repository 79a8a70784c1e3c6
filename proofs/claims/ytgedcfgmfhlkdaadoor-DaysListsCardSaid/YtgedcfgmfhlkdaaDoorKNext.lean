/- The walk of the statement CivilNext; the example that is alive. -/
import Derived.Test.YtgedcfgmfhlkdaaDoorKOf
import Derived.Deep.QuietTactic
set_option linter.unusedVariables false
set_option linter.unusedSimpArgs false
namespace Go.Proofs.YtgedcfgmfhlkdaaDoor
open Go.RowKit Go.Shelf
theorem wkB_in {n : Int} (h0 : 0 ≤ n) (h1 : n ≤ 2932896) : wkB n = wkday n := by unfold wkB; rw [if_pos ⟨h0, h1⟩]
/-- A day's date, told. -/
theorem of_is (n y m d : Int) (h : IsDate n y m d) (w : World) (hT : Tabs w) :
    Calls Tryd.prog 56 #[.int .i64 n] w fun e w' => e = .returned (.tuple #[dateV y m d, .int .i64 0]) ∧ Below w.heap.size w w' := by
  have hb := day_bounds h.1
  rw [← h.2] at hb
  refine (of_yes n w hT hb.1 hb.2).mono ?_
  rintro e w' ⟨⟨y', m', d', h', rfl⟩, hB⟩
  obtain ⟨rfl, rfl, rfl⟩ := h.unique h'
  exact ⟨rfl, hB⟩
theorem day_is (n y m d : Int) (h : IsDate n y m d) (w : World) (hT : Tabs w) :
    Calls Tryd.prog 29 #[dateV y m d] w fun e w' => e = .returned (.tuple #[.int .i64 n, .int .i64 0]) ∧ Below w.heap.size w w' := by
  rw [h.2]; exact day_yes y m d w hT h.1
theorem wk_next (n : Int) : wkday n % 7 + 1 = wkday (n + 1) := by unfold wkday; omega
theorem wk_week (n : Int) : wkday (n + 7) = wkday n := by unfold wkday; omega
end Go.Proofs.YtgedcfgmfhlkdaaDoor
