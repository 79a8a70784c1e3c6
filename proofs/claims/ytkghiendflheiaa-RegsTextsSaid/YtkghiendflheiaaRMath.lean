/- Plain numbers: the two's complement value of a number below M. -/
import Derived.WalkKit
namespace Go.Proofs.Ytkghiendflheiaa
open Go.RowKit
/-- The two's complement value of v, a number below M. -/
def sgm (M v : Int) : Int := if v < M / 2 then v else v - M
def p2 (k : Nat) : Int := 2 ^ (k - 1)
theorem p2_one : p2 1 = 1 := rfl
theorem p2_succ (k : Nat) (h : 1 ≤ k) : p2 (k + 1) = p2 k * 2 := by
  unfold p2; obtain ⟨j, rfl⟩ : ∃ j, k = j + 1 := ⟨k - 1, by omega⟩
  simp [Int.pow_succ]
theorem p2_bd (k : Nat) (h : k ≤ 63) : 1 ≤ p2 k ∧ p2 k ≤ 4611686018427387904 := by
  have h1 : (2:Nat) ^ (k - 1) ≤ 2 ^ 62 := Nat.pow_le_pow_right (by omega) (by omega)
  have h2 : 0 < (2:Nat) ^ (k - 1) := Nat.pow_pos (by omega)
  have e : p2 k = (((2:Nat) ^ (k - 1) : Nat) : Int) := by unfold p2; simp
  rw [e]; omega
end Go.Proofs.Ytkghiendflheiaa
