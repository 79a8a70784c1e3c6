/- The document's place, and which numbers it takes. -/
import Derived.Test.YtnomnigpcpfgiaaRMath3
import Derived.IntWalk
set_option linter.unusedVariables false
namespace Go.Proofs.Ytnomnigpcpfgiaa
open Go.RowKit Go.Sort
set_option maxHeartbeats 1000000 in
theorem place_any (o : Int) (ho : o = 1 ∨ o = 2 ∨ o = 3 ∨ o = 4) (j n : Nat) (hj : j < n) (hn : n ≤ 8) (hp : n % 2 = 0) (w : World) :
    Calls Try.prog 32 #[.int .i64 j, .int .i64 n, .int .i64 o] w fun e w' => e = .returned (.int .i64 (pl o j n : Nat)) ∧ w' = w := by
  have key : ∀ r : Int, r = ((pl o j n : Nat) : Int) → Ending.returned (.int .i64 r) = .returned (.int .i64 (pl o j n : Nat)) := fun r h => by rw [h]
  rcases ho with rfl | rfl | rfl | rfl
  all_goals
    go_enter Try.func32, Try.ntmps32
    go_wp2
    go_ret
    exact ⟨key _ (by simp [pl] <;> omega), rfl⟩
theorem may_any (m : Nat) (hm : m = 1 ∨ m = 2 ∨ m = 4) (w : World) : Calls Try.prog 30 #[.int .i64 m] w fun e w' => e = .returned (.bool true) ∧ w = w' :=
  may_yes m (by unfold lenB; rcases hm with rfl | rfl | rfl <;> rfl) w
theorem rfits_yes (v m : Nat) (h : fitsB v m) (w : World) : Calls Try.prog 31 #[.int .u64 v, .int .i64 m] w fun e w' => e = .returned (.bool true) ∧ w = w' := by
  rcases h with ⟨rfl, h⟩ | ⟨rfl, h⟩ | ⟨rfl, h⟩
  · exact rfits1_yes v (by omega) (by omega) w
  · exact rfits2_yes v (by omega) (by omega) w
  · exact rfits4_yes v (by omega) (by omega) w
theorem rfits_no (v m : Nat) (hm : m = 1 ∨ m = 2 ∨ m = 4) (hv : v < 18446744073709551616) (h : ¬ fitsB v m) (w : World) : Calls Try.prog 31 #[.int .u64 v, .int .i64 m] w fun e w' => e = .returned (.bool false) ∧ w = w' := by
  rcases hm with rfl | rfl | rfl
  · exact rfits1_no v (by omega) (by simp [fitsB] at h; omega) w
  · exact rfits2_no v (by omega) (by simp [fitsB] at h; omega) w
  · exact absurd (Or.inr (Or.inr ⟨rfl, hv⟩)) h
end Go.Proofs.Ytnomnigpcpfgiaa
