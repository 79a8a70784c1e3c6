/- The chapter's first examples. -/
import Derived.Test.YtkghiendflheiaaRWords
import Derived.Test.YtkghiendflheiaaRSame
set_option linter.unusedVariables false
namespace Go.Proofs.Ytkghiendflheiaa
open Go.RowKit Go.Sort
theorem wordsL_eq (v m : Nat) (hm : m = 1 ∨ m = 2 ∨ m = 4) (o : Int) (ho : o = 1 ∨ o = 2 ∨ o = 3 ∨ o = 4) :
    wordsL v m o = pairsL ((List.range (2 * m)).map (fun j => byt v (8 - 2 * m + pl o j (2 * m)))) := by
  unfold wordsL; rw [arr_pl m hm o ho]
theorem al1 : wordsL 16909060 2 1 = [258, 772] := by rw [wordsL_eq 16909060 2 (by omega) 1 (by omega)]; decide +kernel
theorem al2 : wordsL 16909060 2 2 = [772, 258] := by rw [wordsL_eq 16909060 2 (by omega) 2 (by omega)]; decide +kernel
theorem al3 : wordsL 16909060 2 3 = [513, 1027] := by rw [wordsL_eq 16909060 2 (by omega) 3 (by omega)]; decide +kernel
theorem al4 : wordsL 16909060 2 4 = [1027, 513] := by rw [wordsL_eq 16909060 2 (by omega) 4 (by omega)]; decide +kernel
theorem alw (o x y : Int) (ho : o = 1 ∨ o = 2 ∨ o = 3 ∨ o = 4) (h : wordsL 16909060 2 o = [x, y]) (w : World) :
    Calls Try.prog 13 #[.int .u64 16909060, .int .i64 2, .int .i64 o] w fun e w' => ∃ a c, e = .returned (.tuple #[.slice a 2 c, .int .i64 0]) ∧ Own16 w.heap.size w' (.slice a 2 c) [x, y] ∧ Below w.heap.size w w' := by
  have k := words_yes 16909060 2 o (Or.inr (Or.inl ⟨rfl, by omega⟩)) ho w
  rw [h] at k
  exact k
theorem als (a : Option Addr) (c : Nat) (x y : Int) (w : World) (hx : 0 ≤ x ∧ x < 65536) (hy : 0 ≤ y ∧ y < 65536) (hI : Bys16 w.heap.size w (.slice a 2 c) [x, y]) :
    Calls Try.prog 10 #[.slice a 2 c, .slice (some ⟨w.heap.size, 0, none⟩) 2 2] (w.alloc (.cells #[.int .u16 x, .int .u16 y] 33)) fun e w' => e = .returned (.bool true) ∧ Below w.heap.size w w' := by
  have hal : Below w.heap.size w (w.alloc (.cells #[.int .u16 x, .int .u16 y] 33)) := (Below.refl _ _).alloc (Nat.le_refl _) _
  have hb := bys16_alloc (T := 33) w [x, y] (by intro z hz; simp at hz; rcases hz with rfl | rfl <;> assumption) #[.int .u16 x, .int .u16 y] rfl 2 2 rfl (0, 0)
  refine (same_yes a 2 c _ 2 2 [x, y] (by simp) _ (hI.below hal) hb).mono ?_
  rintro e w' ⟨rfl, h⟩
  exact ⟨rfl, hal.trans (h.mono hal.size)⟩
set_option maxRecDepth 100000 in
set_option maxHeartbeats 1000000 in
theorem alive_any (w : World) : Calls Try.prog 17 #[] w fun e w' => e = .returned (.bool true) ∧ Below w.heap.size w w' := by
  go_enter Try.func17, Try.ntmps17
  go_wp2_with fail
  refine (alw 1 _ _ (by omega) al1 w).mono ?_
  rintro e w1 ⟨a1, c1, rfl, hO1, h1⟩
  go_wp2_with fail
  refine (alw 2 _ _ (by omega) al2 w1).mono ?_
  rintro e w2 ⟨a2, c2, rfl, hO2, hB2⟩
  have h2 := h1.trans (hB2.mono h1.size)
  go_wp2_with fail
  refine (alw 3 _ _ (by omega) al3 w2).mono ?_
  rintro e w3 ⟨a3, c3, rfl, hO3, hB3⟩
  have h3 := h2.trans (hB3.mono h2.size)
  go_wp2_with fail
  refine (alw 4 _ _ (by omega) al4 w3).mono ?_
  rintro e w4 ⟨a4, c4, rfl, hO4, hB4⟩
  have h4 := h3.trans (hB4.mono h3.size)
  have d34 := hB4
  have d24 := hB3.trans (d34.mono hB3.size)
  have d14 := hB2.trans (d24.mono hB2.size)
  have I1 := (hO1.below d14 (Nat.le_refl _)).bys
  have I2 := (hO2.below d24 (Nat.le_refl _)).bys
  have I3 := (hO3.below d34 (Nat.le_refl _)).bys
  have I4 := hO4.bys
  go_wp2_with fail
  refine (als a1 c1 _ _ w4 (by omega) (by omega) I1).mono ?_
  rintro e w5 ⟨rfl, hB5⟩
  have h5 := h4.trans (hB5.mono h4.size)
  go_wp2_with fail
  refine (als a2 c2 _ _ w5 (by omega) (by omega) ((I2.below hB5).mono hB5.size)).mono ?_
  rintro e w6 ⟨rfl, hB6⟩
  have h6 := h5.trans (hB6.mono h5.size)
  have d46 := hB5.trans (hB6.mono hB5.size)
  go_wp2_with fail
  refine (als a3 c3 _ _ w6 (by omega) (by omega) ((I3.below d46).mono d46.size)).mono ?_
  rintro e w7 ⟨rfl, hB7⟩
  have h7 := h6.trans (hB7.mono h6.size)
  have d47 := d46.trans (hB7.mono d46.size)
  go_wp2_with fail
  refine (als a4 c4 _ _ w7 (by omega) (by omega) ((I4.below d47).mono d47.size)).mono ?_
  rintro e w8 ⟨rfl, hB8⟩
  have h8 := h7.trans (hB8.mono h7.size)
  go_wp2
  go_ret
  exact ⟨rfl, h8⟩
end Go.Proofs.Ytkghiendflheiaa
