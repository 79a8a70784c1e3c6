/- Registers and numbers, written out. -/
import Derived.Test.YtkghiendflheiaaRAlive
import Derived.Test.YtkghiendflheiaaRValue
set_option linter.unusedVariables false
namespace Go.Proofs.Ytkghiendflheiaa
open Go.RowKit Go.Sort
theorem val2_1 (x y : Int) : valL [x, y] 1 = x / 256 * 16777216 + x % 256 * 65536 + y / 256 * 256 + y % 256 := by
  simp [valL, jn, vb, bytesL, pl, List.getD]; omega
theorem val2_2 (x y : Int) : valL [x, y] 2 = y / 256 * 16777216 + y % 256 * 65536 + x / 256 * 256 + x % 256 := by
  simp [valL, jn, vb, bytesL, pl, List.getD]; omega
theorem val1_3 (x : Int) : valL [x] 3 = x % 256 * 256 + x / 256 := by
  simp [valL, jn, vb, bytesL, pl, List.getD]
theorem bt (v : Nat) : byt v 0 = ((v / 72057594037927936 % 256 : Nat) : Int) ∧ byt v 1 = ((v / 281474976710656 % 256 : Nat) : Int) ∧ byt v 2 = ((v / 1099511627776 % 256 : Nat) : Int) ∧ byt v 3 = ((v / 4294967296 % 256 : Nat) : Int) ∧ byt v 4 = ((v / 16777216 % 256 : Nat) : Int) ∧ byt v 5 = ((v / 65536 % 256 : Nat) : Int) ∧ byt v 6 = ((v / 256 % 256 : Nat) : Int) ∧ byt v 7 = ((v % 256 : Nat) : Int) := by
  simp [byt]
theorem w4 (v : Nat) : wordsL v 4 1 = [byt v 0 * 256 + byt v 1, byt v 2 * 256 + byt v 3, byt v 4 * 256 + byt v 5, byt v 6 * 256 + byt v 7] := by
  exact (wordsL_eq v 4 (by omega) 1 (by omega)).trans (by kernel_rfl)
theorem w4s (v : Nat) : wordsL v 4 2 = [byt v 6 * 256 + byt v 7, byt v 4 * 256 + byt v 5, byt v 2 * 256 + byt v 3, byt v 0 * 256 + byt v 1] := by
  exact (wordsL_eq v 4 (by omega) 2 (by omega)).trans (by kernel_rfl)
def wd (v k : Nat) : Int := ((v / k % 65536 : Nat) : Int)
theorem words4_big (v : Nat) : wordsL v 4 1 = [wd v 281474976710656, wd v 4294967296, wd v 65536, wd v 1] := by
  obtain ⟨h0, h1, h2, h3, h4, h5, h6, h7⟩ := bt v
  rw [w4, h0, h1, h2, h3, h4, h5, h6, h7]
  unfold wd
  congr 1
  · omega
  congr 1
  · omega
  congr 1
  · omega
  congr 1
  omega
theorem words4_swapped (v : Nat) : wordsL v 4 2 = [wd v 1, wd v 65536, wd v 4294967296, wd v 281474976710656] := by
  obtain ⟨h0, h1, h2, h3, h4, h5, h6, h7⟩ := bt v
  rw [w4s, h0, h1, h2, h3, h4, h5, h6, h7]
  unfold wd
  congr 1
  · omega
  congr 1
  · omega
  congr 1
  · omega
  congr 1
  omega
theorem vA (v : Nat) (hv : v < 18446744073709551616) : valL [wd v 281474976710656, wd v 4294967296] 1 = ((v / 4294967296 : Nat) : Int) := by
  rw [val2_1]; unfold wd; omega
theorem vB (v : Nat) : valL [wd v 65536, wd v 1] 1 = ((v % 4294967296 : Nat) : Int) := by
  rw [val2_1]; unfold wd; omega
theorem vC (v : Nat) : valL [wd v 1, wd v 65536] 2 = ((v % 4294967296 : Nat) : Int) := by
  rw [val2_2]; unfold wd; omega
theorem vD (v : Nat) (hv : v < 18446744073709551616) : valL [wd v 4294967296, wd v 281474976710656] 2 = ((v / 4294967296 : Nat) : Int) := by
  rw [val2_2]; unfold wd; omega
theorem vE (v : Nat) : valL [wd v 1] 3 = ((v % 256 * 256 + v % 65536 / 256 : Nat) : Int) := by
  rw [val1_3]; unfold wd; omega
end Go.Proofs.Ytkghiendflheiaa
