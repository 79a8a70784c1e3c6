/- The walk of the statement CivilNames. -/
import Derived.Test.YtjlejpenegjbcaaDoorKRead
import Derived.Test.YtjlejpenegjbcaaDoorKNth
set_option linter.unusedVariables false
set_option linter.unusedSimpArgs false
namespace Go.Proofs.YtjlejpenegjbcaaDoor
open Go.RowKit Go.Shelf
theorem n_instV : instV 2026 11 15 12 0 0 = 1794744000 := by decide
theorem n_momE : momE 2026 11 15 12 0 0 = 0 := by decide
theorem n_is0 : IsDate 0 1970 1 1 := by decide
theorem n_may : ¬ May 2001 2 29 := by decide
theorem n_nth : NthIs 2026 3 7 (-1) := by decide
theorem n_nthD : nthD 2026 3 7 (-1) = 29 := by decide
theorem n_nth2 : ¬ NthIs 2026 2 1 5 := by decide
theorem n_last : IsDate 2932896 9999 12 31 := by decide
theorem n_mom : MomIs 1970 1 1 23 59 59 := by decide
theorem n_text : strOfNums (momL 1970 1 1 23 59 59) = ⟨#[49, 57, 55, 48, 45, 48, 49, 45, 48, 49, 84, 50, 51, 58, 53, 57, 58, 53, 57]⟩ := by decide
theorem n_parse : ¬ Says dateF (strB ⟨#[50, 48, 50, 54, 45, 50, 45, 49, 48]⟩) := fun h => by
  have := h.1.1
  rw [strB_length] at this
  exact absurd this (by decide)
theorem n_wk0 : wkB 0 = 4 := by decide
theorem n_wk1 : wkB (-1) = 0 := by decide
set_option maxRecDepth 100000 in
set_option maxHeartbeats 4000000 in
theorem names_any (w : World) (hT : TabsM w) :
    Calls Tryd.prog 6 #[] w fun e w' => e = .returned (.bool true) ∧ Below w.heap.size w w' := by
  have HT := Lib.hid (show ∀ X, Below w.heap.size w X → TabsM X from fun X hX => hT.next hX)
  have HB0 := Lib.hid (Below.refl w.heap.size w)
  have c1 := fun X hX => instant_any 2026 11 15 12 0 0 X hX
  rw [n_instV, n_momE] at c1
  have c2 := fun X hX => at_yes 86399 (by omega) (by omega) 1970 1 1 n_is0 X hX
  rw [show (86399 : Int) % 86400 / 3600 = 23 from by decide, show (86399 : Int) % 3600 / 60 = 59 from by decide, show (86399 : Int) % 60 = 59 from by decide] at c2
  have c3 := fun X hX => day_no 2001 2 29 X hX n_may
  have c4 := fun X hX => nth_yes 2026 3 7 (-1) n_nth X hX
  rw [n_nthD] at c4
  have c5 := fun X hX => nth_no 2026 2 1 5 n_nth2 X hX
  have c6 := fun X hX => of_is 2932896 9999 12 31 n_last X hX
  have c7 := fun X hX => of_no 2932897 X hX (by omega)
  have c8 := fun X => at_no (-1) (by omega) X
  have c9 := fun X hX => textAt_yes 1970 1 1 23 59 59 n_mom X hX
  rw [n_text] at c9
  have c10 := fun X hX => parse_no ⟨#[50, 48, 50, 54, 45, 50, 45, 49, 48]⟩ (by decide) n_parse X hX
  have C1 := Lib.hid c1
  have C2 := Lib.hid c2
  have C3 := Lib.hid c3
  have C4 := Lib.hid c4
  have C5 := Lib.hid c5
  have C6 := Lib.hid c6
  have C7 := Lib.hid c7
  have C8 := Lib.hid c8
  have C9 := Lib.hid c9
  have C10 := Lib.hid c10
  clear c1 c2 c3 c4 c5 c6 c7 c8 c9 c10 hT
  go_enter Tryd.func6, Tryd.ntmps6
  go_wp2_with fail
  refine (C1.out _ (HT.out _ HB0.out).1).mono ?_
  rintro e w1 ⟨rfl, hB⟩
  have hb1 := HB0.out.trans (hB.mono HB0.out.size)
  have HB1 := Lib.hid hb1
  clear hB hb1 
  go_wp2_with fail
  refine (C2.out _ (HT.out _ HB1.out).1).mono ?_
  rintro e w2 ⟨rfl, hB⟩
  have hb2 := HB1.out.trans (hB.mono HB1.out.size)
  have HB2 := Lib.hid hb2
  have HX2 := Lib.hid (hb2.alloc hb2.size (.cells #[.int .i64 1970, .int .i64 1, .int .i64 1, .int .i64 23, .int .i64 59, .int .i64 59] 40))
  have Gm2 := Lib.hid (heap_alloc_new w2 (.cells #[.int .i64 1970, .int .i64 1, .int .i64 1, .int .i64 23, .int .i64 59, .int .i64 59] 40))
  clear hB hb2 
  go_wp2_with fail
  refine (C3.out _ (HT.out _ HX2.out).1).mono ?_
  rintro e w3 ⟨rfl, hB⟩
  have hb3 := HX2.out.trans (hB.mono HX2.out.size)
  have gm3 := (hB.block w2.heap.size (Array.getElem?_eq_some_iff.1 Gm2.out).1).trans Gm2.out
  have HB3 := Lib.hid hb3
  have Gm3 := Lib.hid gm3
  clear hB hb3 gm3
  go_wp2_with fail
  refine (C4.out _ (HT.out _ HB3.out).1).mono ?_
  rintro e w4 ⟨rfl, hB⟩
  have hb4 := HB3.out.trans (hB.mono HB3.out.size)
  have gm4 := (hB.block w2.heap.size (Array.getElem?_eq_some_iff.1 Gm3.out).1).trans Gm3.out
  have HB4 := Lib.hid hb4
  have HX4 := Lib.hid (hb4.alloc hb4.size (.cells #[.int .i64 2026, .int .i64 3, .int .i64 29] 23))
  have Gm4 := Lib.hid (heap_old gm4 (.cells #[.int .i64 2026, .int .i64 3, .int .i64 29] 23))
  have Gd4 := Lib.hid (heap_alloc_new w4 (.cells #[.int .i64 2026, .int .i64 3, .int .i64 29] 23))
  clear hB hb4 gm4
  go_wp2_with fail
  refine (C5.out _ (HT.out _ HX4.out).1).mono ?_
  rintro e w5 ⟨rfl, hB⟩
  have hb5 := HX4.out.trans (hB.mono HX4.out.size)
  have gm5 := (hB.block w2.heap.size (Array.getElem?_eq_some_iff.1 Gm4.out).1).trans Gm4.out
  have gd5 := (hB.block w4.heap.size (Array.getElem?_eq_some_iff.1 Gd4.out).1).trans Gd4.out
  have HB5 := Lib.hid hb5
  have HX5 := Lib.hid (hb5.alloc hb5.size (.cells #[.int .i64 0, .int .i64 0, .int .i64 0] 23))
  have Gm5 := Lib.hid (heap_old gm5 (.cells #[.int .i64 0, .int .i64 0, .int .i64 0] 23))
  have Gd5 := Lib.hid (heap_old gd5 (.cells #[.int .i64 0, .int .i64 0, .int .i64 0] 23))
  clear hB hb5 gm5 gd5
  go_wp2_with fail
  refine (C6.out _ (HT.out _ HX5.out).1).mono ?_
  rintro e w6 ⟨rfl, hB⟩
  have hb6 := HX5.out.trans (hB.mono HX5.out.size)
  have gm6 := (hB.block w2.heap.size (Array.getElem?_eq_some_iff.1 Gm5.out).1).trans Gm5.out
  have gd6 := (hB.block w4.heap.size (Array.getElem?_eq_some_iff.1 Gd5.out).1).trans Gd5.out
  have HB6 := Lib.hid hb6
  have HX6 := Lib.hid (hb6.alloc hb6.size (.cells #[.int .i64 9999, .int .i64 12, .int .i64 31] 23))
  have Gm6 := Lib.hid (heap_old gm6 (.cells #[.int .i64 9999, .int .i64 12, .int .i64 31] 23))
  have Gd6 := Lib.hid (heap_old gd6 (.cells #[.int .i64 9999, .int .i64 12, .int .i64 31] 23))
  have Gl6 := Lib.hid (heap_alloc_new w6 (.cells #[.int .i64 9999, .int .i64 12, .int .i64 31] 23))
  clear hB hb6 gm6 gd6
  go_wp2_with fail
  refine (C7.out _ (HT.out _ HX6.out).1).mono ?_
  rintro e w7 ⟨rfl, hB⟩
  have hb7 := HX6.out.trans (hB.mono HX6.out.size)
  have gm7 := (hB.block w2.heap.size (Array.getElem?_eq_some_iff.1 Gm6.out).1).trans Gm6.out
  have gd7 := (hB.block w4.heap.size (Array.getElem?_eq_some_iff.1 Gd6.out).1).trans Gd6.out
  have gl7 := (hB.block w6.heap.size (Array.getElem?_eq_some_iff.1 Gl6.out).1).trans Gl6.out
  have HB7 := Lib.hid hb7
  have HX7 := Lib.hid (hb7.alloc hb7.size (.cells #[.int .i64 0, .int .i64 0, .int .i64 0] 23))
  have Gm7 := Lib.hid (heap_old gm7 (.cells #[.int .i64 0, .int .i64 0, .int .i64 0] 23))
  have Gd7 := Lib.hid (heap_old gd7 (.cells #[.int .i64 0, .int .i64 0, .int .i64 0] 23))
  have Gl7 := Lib.hid (heap_old gl7 (.cells #[.int .i64 0, .int .i64 0, .int .i64 0] 23))
  clear hB hb7 gm7 gd7 gl7
  go_wp2_with fail
  refine (C8.out _ ).mono ?_
  rintro e w8 ⟨rfl, hB⟩
  have hb8 := HX7.out.trans (hB.mono HX7.out.size)
  have gm8 := (hB.block w2.heap.size (Array.getElem?_eq_some_iff.1 Gm7.out).1).trans Gm7.out
  have gd8 := (hB.block w4.heap.size (Array.getElem?_eq_some_iff.1 Gd7.out).1).trans Gd7.out
  have gl8 := (hB.block w6.heap.size (Array.getElem?_eq_some_iff.1 Gl7.out).1).trans Gl7.out
  have HB8 := Lib.hid hb8
  have HX8 := Lib.hid (hb8.alloc hb8.size (.cells #[.int .i64 0, .int .i64 0, .int .i64 0, .int .i64 0, .int .i64 0, .int .i64 0] 40))
  have Gm8 := Lib.hid (heap_old gm8 (.cells #[.int .i64 0, .int .i64 0, .int .i64 0, .int .i64 0, .int .i64 0, .int .i64 0] 40))
  have Gd8 := Lib.hid (heap_old gd8 (.cells #[.int .i64 0, .int .i64 0, .int .i64 0, .int .i64 0, .int .i64 0, .int .i64 0] 40))
  have Gl8 := Lib.hid (heap_old gl8 (.cells #[.int .i64 0, .int .i64 0, .int .i64 0, .int .i64 0, .int .i64 0, .int .i64 0] 40))
  clear hB hb8 gm8 gd8 gl8
  have m0 : (w8.alloc (.cells #[.int .i64 0, .int .i64 0, .int .i64 0, .int .i64 0, .int .i64 0, .int .i64 0] 40)).cell? ⟨w2.heap.size, 0, none⟩ = some (.int .i64 1970) := cell_of_row _ _ 0 _ _ _ Gm8.out
  have m1 : (w8.alloc (.cells #[.int .i64 0, .int .i64 0, .int .i64 0, .int .i64 0, .int .i64 0, .int .i64 0] 40)).cell? ⟨w2.heap.size, 1, none⟩ = some (.int .i64 1) := cell_of_row _ _ 1 _ _ _ Gm8.out
  have m2 : (w8.alloc (.cells #[.int .i64 0, .int .i64 0, .int .i64 0, .int .i64 0, .int .i64 0, .int .i64 0] 40)).cell? ⟨w2.heap.size, 2, none⟩ = some (.int .i64 1) := cell_of_row _ _ 2 _ _ _ Gm8.out
  have m3 : (w8.alloc (.cells #[.int .i64 0, .int .i64 0, .int .i64 0, .int .i64 0, .int .i64 0, .int .i64 0] 40)).cell? ⟨w2.heap.size, 3, none⟩ = some (.int .i64 23) := cell_of_row _ _ 3 _ _ _ Gm8.out
  have m4 : (w8.alloc (.cells #[.int .i64 0, .int .i64 0, .int .i64 0, .int .i64 0, .int .i64 0, .int .i64 0] 40)).cell? ⟨w2.heap.size, 4, none⟩ = some (.int .i64 59) := cell_of_row _ _ 4 _ _ _ Gm8.out
  have m5 : (w8.alloc (.cells #[.int .i64 0, .int .i64 0, .int .i64 0, .int .i64 0, .int .i64 0, .int .i64 0] 40)).cell? ⟨w2.heap.size, 5, none⟩ = some (.int .i64 59) := cell_of_row _ _ 5 _ _ _ Gm8.out
  go_wp2_with fail
  refine (C9.out _ (HT.out _ HX8.out)).mono ?_
  rintro e w9 ⟨rfl, hB⟩
  have hb9 := HX8.out.trans (hB.mono HX8.out.size)
  have gm9 := (hB.block w2.heap.size (Array.getElem?_eq_some_iff.1 Gm8.out).1).trans Gm8.out
  have gd9 := (hB.block w4.heap.size (Array.getElem?_eq_some_iff.1 Gd8.out).1).trans Gd8.out
  have gl9 := (hB.block w6.heap.size (Array.getElem?_eq_some_iff.1 Gl8.out).1).trans Gl8.out
  have HB9 := Lib.hid hb9
  have Gm9 := Lib.hid gm9
  have Gd9 := Lib.hid gd9
  have Gl9 := Lib.hid gl9
  clear hB hb9 gm9 gd9 gl9
  clear m0 m1 m2 m3 m4 m5
  go_wp2_with fail
  refine (C10.out _ (HT.out _ HB9.out).1).mono ?_
  rintro e w10 ⟨rfl, hB⟩
  have hb10 := HB9.out.trans (hB.mono HB9.out.size)
  have gm10 := (hB.block w2.heap.size (Array.getElem?_eq_some_iff.1 Gm9.out).1).trans Gm9.out
  have gd10 := (hB.block w4.heap.size (Array.getElem?_eq_some_iff.1 Gd9.out).1).trans Gd9.out
  have gl10 := (hB.block w6.heap.size (Array.getElem?_eq_some_iff.1 Gl9.out).1).trans Gl9.out
  have HB10 := Lib.hid hb10
  have HX10 := Lib.hid (hb10.alloc hb10.size (.cells #[.int .i64 0, .int .i64 0, .int .i64 0] 23))
  have Gm10 := Lib.hid (heap_old gm10 (.cells #[.int .i64 0, .int .i64 0, .int .i64 0] 23))
  have Gd10 := Lib.hid (heap_old gd10 (.cells #[.int .i64 0, .int .i64 0, .int .i64 0] 23))
  have Gl10 := Lib.hid (heap_old gl10 (.cells #[.int .i64 0, .int .i64 0, .int .i64 0] 23))
  clear hB hb10 gm10 gd10 gl10
  go_wp2_with fail
  refine (alive_any _ (HT.out _ HX10.out).1).mono ?_
  rintro e w11 ⟨rfl, hB⟩
  have hb11 := HX10.out.trans (hB.mono HX10.out.size)
  have gd := (hB.block w4.heap.size (Array.getElem?_eq_some_iff.1 Gd10.out).1).trans Gd10.out
  have d0 : w11.cell? ⟨w4.heap.size, 0, none⟩ = some (.int .i64 2026) := cell_of_row _ _ 0 _ _ _ gd
  have d1 : w11.cell? ⟨w4.heap.size, 1, none⟩ = some (.int .i64 3) := cell_of_row _ _ 1 _ _ _ gd
  have d2 : w11.cell? ⟨w4.heap.size, 2, none⟩ = some (.int .i64 29) := cell_of_row _ _ 2 _ _ _ gd
  have gl := (hB.block w6.heap.size (Array.getElem?_eq_some_iff.1 Gl10.out).1).trans Gl10.out
  have l0 : w11.cell? ⟨w6.heap.size, 0, none⟩ = some (.int .i64 9999) := cell_of_row _ _ 0 _ _ _ gl
  have l1 : w11.cell? ⟨w6.heap.size, 1, none⟩ = some (.int .i64 12) := cell_of_row _ _ 1 _ _ _ gl
  have l2 : w11.cell? ⟨w6.heap.size, 2, none⟩ = some (.int .i64 31) := cell_of_row _ _ 2 _ _ _ gl
  have HB11 := Lib.hid hb11
  clear hB hb11 gd gl
  go_wp2_with (go_at_call 20; refine (weekday_any _ _).mono ?_; rintro e w' ⟨rfl, rfl⟩; first | rw [n_wk0] | rw [n_wk1])
  go_ret
  exact ⟨rfl, HB11.out⟩
end Go.Proofs.YtjlejpenegjbcaaDoor
