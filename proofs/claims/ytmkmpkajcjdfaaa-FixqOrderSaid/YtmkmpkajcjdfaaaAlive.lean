/- The contract of the statements' own 'alive': the chapter's first examples hold. -/
import Derived.Test.YtmkmpkajcjdfaaaSum
import Derived.Test.YtmkmpkajcjdfaaaMul
import Derived.Test.YtmkmpkajcjdfaaaFloor
set_option linter.unusedVariables false
namespace Go.Proofs.Ytmkmpkajcjdfaaa
open Go.RowKit Go.Shelf
def i64s (x : Int) (h : -9223372036854775808 ≤ x ∧ x ≤ 9223372036854775807) : I64 := ⟨x, h⟩
theorem alive_add (w : World) : Calls Try.prog 7 #[.int .i64 9223372036854775807, .int .i64 1] w fun e w' => e = .returned (.tuple #[.int .i64 0, .int .i64 10]) ∧ w = w' := by
  have h := add_any 9223372036854775807 1 (by omega) (by omega) (by omega) (by omega) w
  rwa [tv_out (by omega), te_out (by omega)] at h
theorem alive_mul (w : World) : Calls Try.prog 11 #[.int .i64 (-9223372036854775808), .int .i64 (-1)] w fun e w' => e = .returned (.tuple #[.int .i64 0, .int .i64 10]) ∧ w = w' := by
  have h := mul_any (-9223372036854775808) (-1) (by omega) (by omega) (by omega) (by omega) w
  rwa [tv_out (by omega), te_out (by omega)] at h
theorem alive_floor (w : World) : Calls Try.prog 13 #[.int .i64 (-7), .int .i64 2] w fun e w' => e = .returned (.tuple #[.int .i64 (-4), .int .i64 1, .int .i64 0]) ∧ ∃ n, w' = w.drewN n :=
  floor_any (-7) 2 (by omega) (by omega) (by omega) (by omega) (by omega) (by omega) w
theorem alive_sum (w : World) : Calls Try.prog 15 #[.slice (some ⟨w.heap.size, 0, none⟩) 3 3] (w.alloc (.cells #[.int .i64 9223372036854775807, .int .i64 5, .int .i64 (-6)] 2)) fun e w' => e = .returned (.tuple #[.int .i64 9223372036854775806, .int .i64 0]) ∧ Below w.heap.size w w' := by
  have h := sum_any (some ⟨w.heap.size, 0, none⟩) 3 3 [⟨9223372036854775807, by omega⟩, ⟨5, by omega⟩, ⟨-6, by omega⟩] (by simp) (w.alloc (.cells #[.int .i64 9223372036854775807, .int .i64 5, .int .i64 (-6)] 2))
    (.inr ⟨w.heap.size, 0, 3, rfl, by simp, fun j hj => by
      have hj3 : j = 0 ∨ j = 1 ∨ j = 2 := by simp at hj; omega
      rcases hj3 with rfl | rfl | rfl <;> simp⟩)
  have e : isum [⟨9223372036854775807, by omega⟩, ⟨5, by omega⟩, ⟨-6, by omega⟩] = 9223372036854775806 := by simp [isum]
  rw [e, tv_in (by omega), te_in (by omega)] at h
  exact h.mono fun _ _ ⟨h1, h2⟩ => ⟨h1, ((Below.refl _ w).alloc (Nat.le_refl _) _).trans (h2.mono (by simp))⟩
set_option maxHeartbeats 1000000 in
theorem alive_any (w : World) : Calls Try.prog 17 #[] w fun e w' => e = .returned (.bool true) ∧ Below w.heap.size w w' := by
  go_enter Try.func17, Try.ntmps17
  go_wp2_with (first | (go_at_call 7; refine (alive_add _).mono ?_; rintro e w' ⟨rfl, rfl⟩) | (go_at_call 11; refine (alive_mul _).mono ?_; rintro e w' ⟨rfl, rfl⟩))
  refine (alive_sum w).mono ?_
  rintro e w1 ⟨rfl, hB⟩
  go_wp2_with (go_at_call 13; refine (alive_floor _).mono ?_; rintro e w' ⟨rfl, n, rfl⟩)
  go_ret
  exact ⟨rfl, below_drewN hB n⟩
end Go.Proofs.Ytmkmpkajcjdfaaa
