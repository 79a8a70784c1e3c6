/- The walk of the statement CrcPieces. -/
import Derived.Test.YtfpgddkihlpafaaCOwn
import Derived.Test.YtfpgddkihlpafaaCAlive
set_option linter.unusedVariables false
namespace Go.Proofs.Ytfpgddkihlpafaa
open Go.RowKit Go.Shelf
theorem bitsL_append (xs ys : List Int) : bitsL (xs ++ ys) = bitsL xs ++ bitsL ys := by
  unfold bitsL
  rw [List.length_append, Nat.mul_add, upto_add]
  congr 1
  · apply upto_congr
    intro j hj
    unfold bitAt
    simp only [List.getD]; rw [List.getElem?_append_left (by omega)]
  · apply upto_congr
    intro j hj
    unfold bitAt
    rw [show (8 * xs.length + j) / 8 = xs.length + j / 8 by omega, show (8 * xs.length + j) % 8 = j % 8 by omega]
    simp only [List.getD]; rw [List.getElem?_append_right (by omega), Nat.add_sub_cancel_left]
theorem sum16_app (s : Nat) (xs ys : List Int) : sum16 s (xs ++ ys) = sum16 (sum16 s xs) ys := by unfold sum16; rw [bitsL_append, run_append]
theorem sum32_app (s : Nat) (xs ys : List Int) : sum32 s (xs ++ ys) = sum32 (sum32 s xs) ys := by
  unfold sum32; rw [bitsL_append, run_append, xx]
end Go.Proofs.Ytfpgddkihlpafaa
