/- The walk of the statement CivilDays. -/
import Derived.Test.YtgedcfgmfhlkdaaDoorKRef2
set_option linter.unusedVariables false
set_option linter.unusedSimpArgs false
namespace Go.Proofs.YtgedcfgmfhlkdaaDoor
open Go.RowKit Go.Shelf
theorem year_exists (n : Int) (h0 : 0 ≤ n) : ∀ k : Nat, n < ahead (1970 + k) → ∃ y : Int, 1970 ≤ y ∧ y < 1970 + k ∧ ahead y ≤ n ∧ n < ahead (y + 1)
  | 0, h => by rw [Int.natCast_zero, Int.add_zero, ahead_1970] at h; omega
  | k + 1, h => by
    by_cases hk : n < ahead (1970 + k)
    · obtain ⟨y, a, b, c⟩ := year_exists n h0 k hk
      exact ⟨y, a, by omega, c⟩
    · exact ⟨1970 + k, by omega, by omega, by omega, by rw [Int.natCast_add] at h; rw [Int.add_assoc]; exact h⟩
theorem month_exists (y r : Int) (h0 : 0 ≤ r) : ∀ k : Nat, k ≤ 12 → r < bef y (1 + k) → ∃ m : Int, 1 ≤ m ∧ m ≤ k ∧ bef y m ≤ r ∧ r < bef y m + dlen y m
  | 0, _, h => by rw [Int.natCast_zero, Int.add_zero, bef_one] at h; omega
  | k + 1, hk, h => by
    by_cases hr : r < bef y (1 + k)
    · obtain ⟨m, a, b, c⟩ := month_exists y r h0 k (by omega) hr
      exact ⟨m, a, by omega, c⟩
    · have hs := bef_succ (y := y) (m := 1 + k) (by omega) (by omega)
      exact ⟨1 + k, by omega, by omega, by omega, by rw [← hs]; rw [Int.natCast_add, ← Int.add_assoc] at h; exact h⟩
theorem date_exists (n : Int) (h0 : 0 ≤ n) (h1 : n ≤ 2932896) : ∃ y m d, IsDate n y m d := by
  obtain ⟨y, a, b, c, e⟩ := year_exists n h0 8030 (by rw [show (1970 : Int) + (8030 : Nat) = 10000 from rfl, ahead_10000]; omega)
  have hs := ahead_succ (y := y) (by omega)
  have h13 := bef_13 y
  obtain ⟨m, f, g, i, j⟩ := month_exists y (n - ahead y) (by omega) 12 (by omega) (by rw [show (1 : Int) + (12 : Nat) = 13 from rfl]; omega)
  exact ⟨y, m, _, isDate_of a (by omega) f (by omega) (by omega) (by omega)⟩
theorem rof_is (n y m d : Int) (h : IsDate n y m d) (w : World) :
    Calls Tryd.prog 43 #[.int .i64 n] w fun e w' => e = .returned (.tuple #[.int .i64 y, .int .i64 m, .int .i64 d, .int .i64 0]) ∧ w = w' := by
  have hb := day_bounds h.1
  rw [← h.2] at hb
  refine (rof_yes n hb.1 hb.2 w).mono ?_
  rintro e w' ⟨⟨y', m', d', h', rfl⟩, hB⟩
  obtain ⟨rfl, rfl, rfl⟩ := h.unique h'
  exact ⟨rfl, hB⟩
end Go.Proofs.YtgedcfgmfhlkdaaDoor
