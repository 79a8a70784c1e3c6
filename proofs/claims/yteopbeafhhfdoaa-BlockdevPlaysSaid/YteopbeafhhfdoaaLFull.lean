/- Sectors of one byte; what a sector reads as. -/
import Derived.Test.YteopbeafhhfdoaaDCached
import Derived.Test.YteopbeafhhfdoaaDCopy
import Derived.Test.YteopbeafhhfdoaaDRead
set_option linter.unusedVariables false
set_option linter.unusedSimpArgs false
namespace Go.Proofs.Yteopbeafhhfdoaa
open Go.RowKit
/-- A row of n numbers of the call's own. -/
def RowE (w w' : World) (n : Nat) (f : Nat → Int) (e : Ending) : Prop := ∃ g, w.heap.size ≤ g ∧ g < w'.heap.size ∧ e = .returned (.slice (some ⟨g, 0, none⟩) n n) ∧ Row8 g n f w' ∧ Below w.heap.size w w'
set_option maxRecDepth 100000 in
theorem full_any (c : Int) (w : World) : Calls Try.prog 20 #[.int .u8 c] w fun e w' => RowE w w' 128 (fun _ => c) e := by
  obtain ⟨i0, hi, hz0, hz1, hz2⟩ := parts8
  have HI0 := Lib.hid hi
  have HZ0 := Lib.hid hz0
  have HZ1 := Lib.hid hz1
  have HZ2 := Lib.hid hz2
  clear hi hz0 hz1 hz2
  go_enter Try.func20, Try.ntmps20
  go_wp2_with (at_make; refine wpList_make_full _ rfl _ _ 32 rfl w.heap.size 5 i0 (.int .u8 0) 1 Try.underlying32 HI0.out HZ0.out HZ1.out .i64 .i64 _ _ 128 rfl rfl rfl rfl (by rw [HZ2.out]; omega) (by unfold maxLen; omega) (Nat.le_refl _) ?_; intro w1 hO1 hG1)
  have hB1 : Below w.heap.size w w1 := (Below.refl _ _).grown hG1 (Nat.le_refl _) (by simp)
  have hP1 : Row8 w.heap.size 128 (fun _ => 0) w1 := Row8.of_owns hO1 (fun j hj => made8_zero 128 j hj)
  have hlt1 : w.heap.size < w1.heap.size := (hO1.lt _ rfl).2
  clear hO1 hG1
  go_loopw [8] (fun i wr => ∃ k : Nat, k ≤ 128 ∧ i = .int .i64 (k : Int) ∧ Row8 w.heap.size 128 (fun j => if j < k then c else 0) wr ∧ w.heap.size < wr.heap.size ∧ Below w.heap.size w wr) (fun i _ => (128 - intOf i).toNat)
  case atStart => exact ⟨0, Nat.zero_le _, rfl, hP1.congr (fun j _ => by simp), hlt1, hB1⟩
  case round =>
    obtain ⟨k, hk, rfl, hP, hlt, hB⟩ := hrel
    clear hP1 hlt1 hB1
    by_cases h128 : k < 128
    · have i1 : (k : Int) < 128 := by omega
      have in0 : (0 : Int) ≤ (k : Int) := by omega
      have wk : wrap64 ((k : Int) + 1) = ((k + 1 : Nat) : Int) := by unfold wrap64; omega
      obtain ⟨c1, f1⟩ := hP k h128
      have HREL := Lib.hid (show Row8 w.heap.size 128 (fun j => if j < k + 1 then c else 0) (wr.setCell ⟨w.heap.size, k, none⟩ (.int .u8 c)) ∧ w.heap.size < (wr.setCell ⟨w.heap.size, k, none⟩ (.int .u8 c)).heap.size ∧ Below w.heap.size w (wr.setCell ⟨w.heap.size, k, none⟩ (.int .u8 c)) from
        ⟨(hP.set k c).congr (fun j _ => by
          by_cases e : j = k
          · rw [if_pos e, if_pos (by omega)]
          · rw [if_neg e]
            by_cases e2 : j < k
            · rw [if_pos e2, if_pos (by omega)]
            · rw [if_neg e2, if_neg (by omega)]), by rw [World.size_setCell]; exact hlt, hB.setCell (p := ⟨w.heap.size, k, none⟩) (Nat.le_refl _) _⟩)
      have HK := Lib.hid h128
      clear hP hlt hB hk h128
      go_wp2
      go_roundw
      case rel => exact ⟨k + 1, HK.out, by first | rfl | rw [wk], HREL.out⟩
      case measure =>
        have hk2 := HK.out
        first
          | (show ((128 : Int) - intOf (.int .i64 (wrap64 ((k : Int) + 1)))).toNat < ((128 : Int) - intOf (.int .i64 (k : Int))).toNat; rw [wk])
          | (show ((128 : Int) - intOf (.int .i64 ((k + 1 : Nat) : Int))).toNat < ((128 : Int) - intOf (.int .i64 (k : Int))).toNat)
          | (show ((128 : Int) - intOf (.int .i64 ((k : Int) + 1))).toNat < ((128 : Int) - intOf (.int .i64 (k : Int))).toNat)
        first
          | (show ((128 : Int) - ((k + 1 : Nat) : Int)).toNat < ((128 : Int) - ((k : Nat) : Int)).toNat; omega)
          | (show ((128 : Int) - ((k : Int) + 1)).toNat < ((128 : Int) - ((k : Nat) : Int)).toNat; omega)
    · have hke : k = 128 := by omega
      subst hke
      have HX := Lib.hid (show RowE w wr 128 (fun _ => c) (.returned (.slice (some ⟨w.heap.size, 0, none⟩) 128 128)) from ⟨w.heap.size, Nat.le_refl _, hlt, rfl, hP.congr (fun j hj => if_pos hj), hB⟩)
      clear hP hlt hB hk h128
      go_wp2
      go_ret
      exact HX.out
end Go.Proofs.Yteopbeafhhfdoaa
