/- The contracts of read, Parse and ParseAt. -/
import Derived.Test.YtjlejpenegjbcaaDoorKNumbers
import Derived.BigRegion
set_option linter.unusedVariables false
set_option linter.unusedSimpArgs false
namespace Go.Proofs.YtjlejpenegjbcaaDoor
open Go.RowKit Go.Shelf
theorem results_read {y m d h mi s e : Int} {b : Nat} {tmps : Array Value} {w : World} (h2 : tmps.getD 4 undef = .pointer (some ⟨b, 0, none⟩)) (h3 : tmps.getD 5 undef = .int .i64 e)
    (hb : w.heap[b]? = some (.cells #[.int .i64 y, .int .i64 m, .int .i64 d, .int .i64 h, .int .i64 mi, .int .i64 s] 40 (0, 0))) : (results Tryd.f42 tmps).run Tryd.prog w = .ok (.tuple #[momV y m d h mi s, .int .i64 e]) w := by
  have c0 : w.cell? ⟨b, 0, none⟩ = some (.int .i64 y) := cell_of_row w b 0 _ _ _ hb
  have c1 : w.cell? ⟨b, 1, none⟩ = some (.int .i64 m) := cell_of_row w b 1 _ _ _ hb
  have c2 : w.cell? ⟨b, 2, none⟩ = some (.int .i64 d) := cell_of_row w b 2 _ _ _ hb
  have c3 : w.cell? ⟨b, 3, none⟩ = some (.int .i64 h) := cell_of_row w b 3 _ _ _ hb
  have c4 : w.cell? ⟨b, 4, none⟩ = some (.int .i64 mi) := cell_of_row w b 4 _ _ _ hb
  have c5 : w.cell? ⟨b, 5, none⟩ = some (.int .i64 s) := cell_of_row w b 5 _ _ _ hb
  simp only [Array.getD_eq_getD_getElem?] at h2 h3
  simp [results, Tryd.results42, go_sem, h2, h3, c0, c1, c2, c3, c4, c5, momV]
set_option maxRecDepth 100000 in
set_option maxHeartbeats 4000000 in
theorem read_walk (s F : ByteArray) (y m d h mi x : Int) (ok : Bool) (w : World) (hT : Tabs w)
    (hN : ∀ X, Calls Tryd.prog 49 #[.string s, .string F] X fun e w' => e = .returned (.tuple #[.agg #[.int .i64 y, .int .i64 m, .int .i64 d, .int .i64 h, .int .i64 mi, .int .i64 x], .bool ok]) ∧ Below X.heap.size X w') :
    Calls Tryd.prog 42 #[.string s, .string F] w fun e w' => e = .returned (if ok = true ∧ MomIs y m d h mi x then .tuple #[momV y m d h mi x, .int .i64 0] else .tuple #[momV 0 0 0 0 0 0, .int .i64 60]) ∧ Below w.heap.size w w' := by
  have HT := Lib.hid (show ∀ X, Below w.heap.size w X → Tabs X from fun X hX => hT.next hX)
  have HN := Lib.hid hN
  have hb0 := (Below.refl _ w).alloc (Nat.le_refl _) (.cells #[.int .i64 0, .int .i64 0, .int .i64 0, .int .i64 0, .int .i64 0, .int .i64 0] 40)
  have hr := heap_alloc_new w (.cells #[.int .i64 0, .int .i64 0, .int .i64 0, .int .i64 0, .int .i64 0, .int .i64 0] 40)
  have HB0 := Lib.hid hb0
  have HR0 := Lib.hid hr
  obtain ⟨RV, hRV⟩ : ∃ v, v = (if ok = true ∧ MomIs y m d h mi x then Value.tuple #[momV y m d h mi x, .int .i64 0] else Value.tuple #[momV 0 0 0 0 0 0, .int .i64 60]) := ⟨_, rfl⟩
  rw [← hRV]
  have HRV := Lib.hid hRV
  clear hN hT hb0 hr hRV
  go_enter Tryd.func42, Tryd.ntmps42
  go_wp2_with fail
  refine (HN.out _).mono ?_
  rintro e w1 ⟨rfl, hB1⟩
  have hr1 := (hB1.block w.heap.size (by simp)).trans HR0.out
  have HB1 := Lib.hid (HB0.out.trans (hB1.mono (by simp)))
  have HR1 := Lib.hid hr1
  clear hB1 hr1 HN HB0 HR0
  go_wp2_with fail
  obtain ⟨Z, hZ⟩ : ∃ Z, (w1.alloc (.cells #[.int .i64 y, .int .i64 m, .int .i64 d, .int .i64 h, .int .i64 mi, .int .i64 x] 70)).alloc (.cells #[.int .i64 0, .int .i64 0, .int .i64 0, .int .i64 0, .int .i64 0, .int .i64 0] 40) = Z := ⟨_, rfl⟩
  have i2 := heap_alloc_new (w1.alloc (.cells #[.int .i64 y, .int .i64 m, .int .i64 d, .int .i64 h, .int .i64 mi, .int .i64 x] 70)) (.cells #[.int .i64 0, .int .i64 0, .int .i64 0, .int .i64 0, .int .i64 0, .int .i64 0] 40)
  rw [World.size_alloc] at i2
  have z1 : Z.heap[w.heap.size]? = some (.cells #[.int .i64 0, .int .i64 0, .int .i64 0, .int .i64 0, .int .i64 0, .int .i64 0] 40 (0, 0)) := by rw [← hZ]; exact heap_old (heap_old HR1.out _) _
  have z2 : Z.heap[w1.heap.size]? = some (.cells #[.int .i64 y, .int .i64 m, .int .i64 d, .int .i64 h, .int .i64 mi, .int .i64 x] 70 (0, 0)) := by rw [← hZ]; exact heap_old (heap_alloc_new w1 _) _
  have z3 : Z.heap[w1.heap.size + 1]? = some (.cells #[.int .i64 0, .int .i64 0, .int .i64 0, .int .i64 0, .int .i64 0, .int .i64 0] 40 (0, 0)) := by rw [← hZ]; exact i2
  have z4 : Below w.heap.size w Z := by rw [← hZ]; exact (HB1.out.alloc HB1.out.size _).alloc (by have := HB1.out.size; simp; omega) _
  have hws := HB1.out.size
  have hwl : w.heap.size < w1.heap.size := (Array.getElem?_eq_some_iff.1 HR1.out).1
  rw [hZ]
  have Z1 := Lib.hid z1
  have Z2 := Lib.hid z2
  have Z3 := Lib.hid z3
  have Z4 := Lib.hid z4
  clear i2 z1 z2 z3 z4 hZ HB1 HR1
  generalize w1.heap.size = b6 at *
  have n0 : Z.cell? ⟨b6, 0, none⟩ = some (.int .i64 y) := cell_of_row Z _ 0 _ _ _ Z2.out
  have q0 : Z.cell? ⟨b6 + 1, 0, none⟩ = some (.int .i64 0) := cell_of_row Z _ 0 _ _ _ Z3.out
  have f0 := frozen_of_row Z (b6 + 1) 0 _ _ Z3.out
  have n1 : Z.cell? ⟨b6, 1, none⟩ = some (.int .i64 m) := cell_of_row Z _ 1 _ _ _ Z2.out
  have q1 : Z.cell? ⟨b6 + 1, 1, none⟩ = some (.int .i64 0) := cell_of_row Z _ 1 _ _ _ Z3.out
  have f1 := frozen_of_row Z (b6 + 1) 1 _ _ Z3.out
  have n2 : Z.cell? ⟨b6, 2, none⟩ = some (.int .i64 d) := cell_of_row Z _ 2 _ _ _ Z2.out
  have q2 : Z.cell? ⟨b6 + 1, 2, none⟩ = some (.int .i64 0) := cell_of_row Z _ 2 _ _ _ Z3.out
  have f2 := frozen_of_row Z (b6 + 1) 2 _ _ Z3.out
  have n3 : Z.cell? ⟨b6, 3, none⟩ = some (.int .i64 h) := cell_of_row Z _ 3 _ _ _ Z2.out
  have q3 : Z.cell? ⟨b6 + 1, 3, none⟩ = some (.int .i64 0) := cell_of_row Z _ 3 _ _ _ Z3.out
  have f3 := frozen_of_row Z (b6 + 1) 3 _ _ Z3.out
  have n4 : Z.cell? ⟨b6, 4, none⟩ = some (.int .i64 mi) := cell_of_row Z _ 4 _ _ _ Z2.out
  have q4 : Z.cell? ⟨b6 + 1, 4, none⟩ = some (.int .i64 0) := cell_of_row Z _ 4 _ _ _ Z3.out
  have f4 := frozen_of_row Z (b6 + 1) 4 _ _ Z3.out
  have n5 : Z.cell? ⟨b6, 5, none⟩ = some (.int .i64 x) := cell_of_row Z _ 5 _ _ _ Z2.out
  have q5 : Z.cell? ⟨b6 + 1, 5, none⟩ = some (.int .i64 0) := cell_of_row Z _ 5 _ _ _ Z3.out
  have f5 := frozen_of_row Z (b6 + 1) 5 _ _ Z3.out
  go_region
  obtain ⟨U, hU⟩ : ∃ U, (((Z.setCell ⟨b6 + 1, 0, none⟩ (.int .i64 y)).setCell ⟨b6 + 1, 1, none⟩ (.int .i64 m)).setCell ⟨b6 + 1, 2, none⟩ (.int .i64 d)).drew = U := ⟨_, rfl⟩
  have u1 : U.heap[w.heap.size]? = some (.cells #[.int .i64 0, .int .i64 0, .int .i64 0, .int .i64 0, .int .i64 0, .int .i64 0] 40 (0, 0)) := by rw [← hU]; exact ((heap_setCell_other ((Z.setCell ⟨b6 + 1, 0, none⟩ (.int .i64 y)).setCell ⟨b6 + 1, 1, none⟩ (.int .i64 m)) ⟨b6 + 1, 2, none⟩ w.heap.size (.int .i64 d) (by simp <;> omega)).trans ((heap_setCell_other (Z.setCell ⟨b6 + 1, 0, none⟩ (.int .i64 y)) ⟨b6 + 1, 1, none⟩ w.heap.size (.int .i64 m) (by simp <;> omega)).trans ((heap_setCell_other Z ⟨b6 + 1, 0, none⟩ w.heap.size (.int .i64 y) (by simp <;> omega)).trans Z1.out)))
  have u2 : U.heap[b6]? = some (.cells #[.int .i64 y, .int .i64 m, .int .i64 d, .int .i64 h, .int .i64 mi, .int .i64 x] 70 (0, 0)) := by rw [← hU]; exact ((heap_setCell_other ((Z.setCell ⟨b6 + 1, 0, none⟩ (.int .i64 y)).setCell ⟨b6 + 1, 1, none⟩ (.int .i64 m)) ⟨b6 + 1, 2, none⟩ b6 (.int .i64 d) (by simp <;> omega)).trans ((heap_setCell_other (Z.setCell ⟨b6 + 1, 0, none⟩ (.int .i64 y)) ⟨b6 + 1, 1, none⟩ b6 (.int .i64 m) (by simp <;> omega)).trans ((heap_setCell_other Z ⟨b6 + 1, 0, none⟩ b6 (.int .i64 y) (by simp <;> omega)).trans Z2.out)))
  have u3 : U.heap[b6 + 1]? = some (.cells #[.int .i64 y, .int .i64 m, .int .i64 d, .int .i64 0, .int .i64 0, .int .i64 0] 40 (0, 0)) := by rw [← hU]; exact (heap_setCell_same _ (b6 + 1) 2 _ _ (.int .i64 d) (heap_setCell_same _ (b6 + 1) 1 _ _ (.int .i64 m) (heap_setCell_same _ (b6 + 1) 0 _ _ (.int .i64 y) Z3.out)))
  have u4 : Below w.heap.size w U := by rw [← hU]; exact (((Z4.out.setCell (p := ⟨b6 + 1, 0, none⟩) (by simp; omega) (.int .i64 y)).setCell (p := ⟨b6 + 1, 1, none⟩) (by simp; omega) (.int .i64 m)).setCell (p := ⟨b6 + 1, 2, none⟩) (by simp; omega) (.int .i64 d)).drew
  rw [hU]
  have U1 := Lib.hid u1
  have U2 := Lib.hid u2
  have U3 := Lib.hid u3
  have U4 := Lib.hid u4
  clear u1 u2 u3 u4 hU Z1 Z2 Z3 Z4 n0 q0 f0 n1 q1 f1 n2 q2 f2 n3 q3 f3 n4 q4 f4 n5 q5 f5
  have n0 : U.cell? ⟨b6, 0, none⟩ = some (.int .i64 y) := cell_of_row U _ 0 _ _ _ U2.out
  have q0 : U.cell? ⟨b6 + 1, 0, none⟩ = some (.int .i64 y) := cell_of_row U _ 0 _ _ _ U3.out
  have f0 := frozen_of_row U (b6 + 1) 0 _ _ U3.out
  have n1 : U.cell? ⟨b6, 1, none⟩ = some (.int .i64 m) := cell_of_row U _ 1 _ _ _ U2.out
  have q1 : U.cell? ⟨b6 + 1, 1, none⟩ = some (.int .i64 m) := cell_of_row U _ 1 _ _ _ U3.out
  have f1 := frozen_of_row U (b6 + 1) 1 _ _ U3.out
  have n2 : U.cell? ⟨b6, 2, none⟩ = some (.int .i64 d) := cell_of_row U _ 2 _ _ _ U2.out
  have q2 : U.cell? ⟨b6 + 1, 2, none⟩ = some (.int .i64 d) := cell_of_row U _ 2 _ _ _ U3.out
  have f2 := frozen_of_row U (b6 + 1) 2 _ _ U3.out
  have n3 : U.cell? ⟨b6, 3, none⟩ = some (.int .i64 h) := cell_of_row U _ 3 _ _ _ U2.out
  have q3 : U.cell? ⟨b6 + 1, 3, none⟩ = some (.int .i64 0) := cell_of_row U _ 3 _ _ _ U3.out
  have f3 := frozen_of_row U (b6 + 1) 3 _ _ U3.out
  have n4 : U.cell? ⟨b6, 4, none⟩ = some (.int .i64 mi) := cell_of_row U _ 4 _ _ _ U2.out
  have q4 : U.cell? ⟨b6 + 1, 4, none⟩ = some (.int .i64 0) := cell_of_row U _ 4 _ _ _ U3.out
  have f4 := frozen_of_row U (b6 + 1) 4 _ _ U3.out
  have n5 : U.cell? ⟨b6, 5, none⟩ = some (.int .i64 x) := cell_of_row U _ 5 _ _ _ U2.out
  have q5 : U.cell? ⟨b6 + 1, 5, none⟩ = some (.int .i64 0) := cell_of_row U _ 5 _ _ _ U3.out
  have f5 := frozen_of_row U (b6 + 1) 5 _ _ U3.out
  go_wp2_with fail
  go_region
  obtain ⟨V, hV⟩ : ∃ V, (((U.setCell ⟨b6 + 1, 3, none⟩ (.int .i64 h)).setCell ⟨b6 + 1, 4, none⟩ (.int .i64 mi)).setCell ⟨b6 + 1, 5, none⟩ (.int .i64 x)).drew = V := ⟨_, rfl⟩
  have u1 : V.heap[w.heap.size]? = some (.cells #[.int .i64 0, .int .i64 0, .int .i64 0, .int .i64 0, .int .i64 0, .int .i64 0] 40 (0, 0)) := by rw [← hV]; exact ((heap_setCell_other ((U.setCell ⟨b6 + 1, 3, none⟩ (.int .i64 h)).setCell ⟨b6 + 1, 4, none⟩ (.int .i64 mi)) ⟨b6 + 1, 5, none⟩ w.heap.size (.int .i64 x) (by simp <;> omega)).trans ((heap_setCell_other (U.setCell ⟨b6 + 1, 3, none⟩ (.int .i64 h)) ⟨b6 + 1, 4, none⟩ w.heap.size (.int .i64 mi) (by simp <;> omega)).trans ((heap_setCell_other U ⟨b6 + 1, 3, none⟩ w.heap.size (.int .i64 h) (by simp <;> omega)).trans U1.out)))
  have u2 : V.heap[b6]? = some (.cells #[.int .i64 y, .int .i64 m, .int .i64 d, .int .i64 h, .int .i64 mi, .int .i64 x] 70 (0, 0)) := by rw [← hV]; exact ((heap_setCell_other ((U.setCell ⟨b6 + 1, 3, none⟩ (.int .i64 h)).setCell ⟨b6 + 1, 4, none⟩ (.int .i64 mi)) ⟨b6 + 1, 5, none⟩ b6 (.int .i64 x) (by simp <;> omega)).trans ((heap_setCell_other (U.setCell ⟨b6 + 1, 3, none⟩ (.int .i64 h)) ⟨b6 + 1, 4, none⟩ b6 (.int .i64 mi) (by simp <;> omega)).trans ((heap_setCell_other U ⟨b6 + 1, 3, none⟩ b6 (.int .i64 h) (by simp <;> omega)).trans U2.out)))
  have u3 : V.heap[b6 + 1]? = some (.cells #[.int .i64 y, .int .i64 m, .int .i64 d, .int .i64 h, .int .i64 mi, .int .i64 x] 40 (0, 0)) := by rw [← hV]; exact (heap_setCell_same _ (b6 + 1) 5 _ _ (.int .i64 x) (heap_setCell_same _ (b6 + 1) 4 _ _ (.int .i64 mi) (heap_setCell_same _ (b6 + 1) 3 _ _ (.int .i64 h) U3.out)))
  have u4 : Below w.heap.size w V := by rw [← hV]; exact (((U4.out.setCell (p := ⟨b6 + 1, 3, none⟩) (by simp; omega) (.int .i64 h)).setCell (p := ⟨b6 + 1, 4, none⟩) (by simp; omega) (.int .i64 mi)).setCell (p := ⟨b6 + 1, 5, none⟩) (by simp; omega) (.int .i64 x)).drew
  rw [hV]
  have V1 := Lib.hid u1
  have V2 := Lib.hid u2
  have V3 := Lib.hid u3
  have V4 := Lib.hid u4
  clear u1 u2 u3 u4 hV U1 U2 U3 U4 n0 q0 f0 n1 q1 f1 n2 q2 f2 n3 q3 f3 n4 q4 f4 n5 q5 f5
  have q0 : V.cell? ⟨b6 + 1, 0, none⟩ = some (.int .i64 y) := cell_of_row V _ 0 _ _ _ V3.out
  have r0 : V.cell? ⟨w.heap.size, 0, none⟩ = some (.int .i64 0) := cell_of_row V _ 0 _ _ _ V1.out
  have f0 := frozen_of_row V w.heap.size 0 _ _ V1.out
  have q1 : V.cell? ⟨b6 + 1, 1, none⟩ = some (.int .i64 m) := cell_of_row V _ 1 _ _ _ V3.out
  have r1 : V.cell? ⟨w.heap.size, 1, none⟩ = some (.int .i64 0) := cell_of_row V _ 1 _ _ _ V1.out
  have f1 := frozen_of_row V w.heap.size 1 _ _ V1.out
  have q2 : V.cell? ⟨b6 + 1, 2, none⟩ = some (.int .i64 d) := cell_of_row V _ 2 _ _ _ V3.out
  have r2 : V.cell? ⟨w.heap.size, 2, none⟩ = some (.int .i64 0) := cell_of_row V _ 2 _ _ _ V1.out
  have f2 := frozen_of_row V w.heap.size 2 _ _ V1.out
  have q3 : V.cell? ⟨b6 + 1, 3, none⟩ = some (.int .i64 h) := cell_of_row V _ 3 _ _ _ V3.out
  have r3 : V.cell? ⟨w.heap.size, 3, none⟩ = some (.int .i64 0) := cell_of_row V _ 3 _ _ _ V1.out
  have f3 := frozen_of_row V w.heap.size 3 _ _ V1.out
  have q4 : V.cell? ⟨b6 + 1, 4, none⟩ = some (.int .i64 mi) := cell_of_row V _ 4 _ _ _ V3.out
  have r4 : V.cell? ⟨w.heap.size, 4, none⟩ = some (.int .i64 0) := cell_of_row V _ 4 _ _ _ V1.out
  have f4 := frozen_of_row V w.heap.size 4 _ _ V1.out
  have q5 : V.cell? ⟨b6 + 1, 5, none⟩ = some (.int .i64 x) := cell_of_row V _ 5 _ _ _ V3.out
  have r5 : V.cell? ⟨w.heap.size, 5, none⟩ = some (.int .i64 0) := cell_of_row V _ 5 _ _ _ V1.out
  have f5 := frozen_of_row V w.heap.size 5 _ _ V1.out
  cases ok with
  | false =>
    go_wp2
    have hrow := (heap_setCell_same _ w.heap.size 5 _ _ (.int .i64 0) (heap_setCell_same _ w.heap.size 4 _ _ (.int .i64 0) (heap_setCell_same _ w.heap.size 3 _ _ (.int .i64 0) (heap_setCell_same _ w.heap.size 2 _ _ (.int .i64 0) (heap_setCell_same _ w.heap.size 1 _ _ (.int .i64 0) (heap_setCell_same _ w.heap.size 0 _ _ (.int .i64 0) V1.out))))))
    refine bodyPost_ret (results_read rfl rfl hrow) rfl ?_
    exact ⟨by rw [HRV.out, if_neg (fun hc => by cases hc.1)], ((((((V4.out.setCell (p := ⟨w.heap.size, 0, none⟩) (by simp) _).setCell (p := ⟨w.heap.size, 1, none⟩) (by simp) _).setCell (p := ⟨w.heap.size, 2, none⟩) (by simp) _).setCell (p := ⟨w.heap.size, 3, none⟩) (by simp) _).setCell (p := ⟨w.heap.size, 4, none⟩) (by simp) _).setCell (p := ⟨w.heap.size, 5, none⟩) (by simp) _)⟩
  | true =>
    have HCK := Lib.hid (check_any y m d _ (HT.out _ V4.out))
    by_cases c1 : May y m d
    · have hck := HCK.out
      rw [mayE_yes c1] at hck
      have HK := Lib.hid hck
      have C1 := Lib.hid c1
      clear hck HCK c1
      go_wp2_with fail
      refine HK.out.mono ?_
      rintro e A ⟨rfl, hBA⟩
      have p1 := (hBA.block w.heap.size (Array.getElem?_eq_some_iff.1 V1.out).1).trans V1.out
      have p3 := (hBA.block (b6 + 1) (Array.getElem?_eq_some_iff.1 V3.out).1).trans V3.out
      have p4 := V4.out.trans (hBA.mono V4.out.size)
      clear q0 r0 f0 q1 r1 f1 q2 r2 f2 q3 r3 f3 q4 r4 f4 q5 r5 f5
      have q0 : A.cell? ⟨b6 + 1, 0, none⟩ = some (.int .i64 y) := cell_of_row A _ 0 _ _ _ p3
      have r0 : A.cell? ⟨w.heap.size, 0, none⟩ = some (.int .i64 0) := cell_of_row A _ 0 _ _ _ p1
      have f0 := frozen_of_row A w.heap.size 0 _ _ p1
      have q1 : A.cell? ⟨b6 + 1, 1, none⟩ = some (.int .i64 m) := cell_of_row A _ 1 _ _ _ p3
      have r1 : A.cell? ⟨w.heap.size, 1, none⟩ = some (.int .i64 0) := cell_of_row A _ 1 _ _ _ p1
      have f1 := frozen_of_row A w.heap.size 1 _ _ p1
      have q2 : A.cell? ⟨b6 + 1, 2, none⟩ = some (.int .i64 d) := cell_of_row A _ 2 _ _ _ p3
      have r2 : A.cell? ⟨w.heap.size, 2, none⟩ = some (.int .i64 0) := cell_of_row A _ 2 _ _ _ p1
      have f2 := frozen_of_row A w.heap.size 2 _ _ p1
      have q3 : A.cell? ⟨b6 + 1, 3, none⟩ = some (.int .i64 h) := cell_of_row A _ 3 _ _ _ p3
      have r3 : A.cell? ⟨w.heap.size, 3, none⟩ = some (.int .i64 0) := cell_of_row A _ 3 _ _ _ p1
      have f3 := frozen_of_row A w.heap.size 3 _ _ p1
      have q4 : A.cell? ⟨b6 + 1, 4, none⟩ = some (.int .i64 mi) := cell_of_row A _ 4 _ _ _ p3
      have r4 : A.cell? ⟨w.heap.size, 4, none⟩ = some (.int .i64 0) := cell_of_row A _ 4 _ _ _ p1
      have f4 := frozen_of_row A w.heap.size 4 _ _ p1
      have q5 : A.cell? ⟨b6 + 1, 5, none⟩ = some (.int .i64 x) := cell_of_row A _ 5 _ _ _ p3
      have r5 : A.cell? ⟨w.heap.size, 5, none⟩ = some (.int .i64 0) := cell_of_row A _ 5 _ _ _ p1
      have f5 := frozen_of_row A w.heap.size 5 _ _ p1
      have A1 := Lib.hid p1
      have A3 := Lib.hid p3
      have A4 := Lib.hid p4
      clear p1 p3 p4 hBA
      go_wp2_with fail
      refine (hasTime_any _ _ _ _ _ _ _).mono ?_
      rintro e D ⟨rfl, hBD⟩
      have p1 := (hBD.block w.heap.size (Array.getElem?_eq_some_iff.1 A1.out).1).trans A1.out
      have p3 := (hBD.block (b6 + 1) (Array.getElem?_eq_some_iff.1 A3.out).1).trans A3.out
      have p4 := A4.out.trans (hBD.mono A4.out.size)
      clear q0 r0 f0 q1 r1 f1 q2 r2 f2 q3 r3 f3 q4 r4 f4 q5 r5 f5
      have q0 : D.cell? ⟨b6 + 1, 0, none⟩ = some (.int .i64 y) := cell_of_row D _ 0 _ _ _ p3
      have r0 : D.cell? ⟨w.heap.size, 0, none⟩ = some (.int .i64 0) := cell_of_row D _ 0 _ _ _ p1
      have f0 := frozen_of_row D w.heap.size 0 _ _ p1
      have q1 : D.cell? ⟨b6 + 1, 1, none⟩ = some (.int .i64 m) := cell_of_row D _ 1 _ _ _ p3
      have r1 : D.cell? ⟨w.heap.size, 1, none⟩ = some (.int .i64 0) := cell_of_row D _ 1 _ _ _ p1
      have f1 := frozen_of_row D w.heap.size 1 _ _ p1
      have q2 : D.cell? ⟨b6 + 1, 2, none⟩ = some (.int .i64 d) := cell_of_row D _ 2 _ _ _ p3
      have r2 : D.cell? ⟨w.heap.size, 2, none⟩ = some (.int .i64 0) := cell_of_row D _ 2 _ _ _ p1
      have f2 := frozen_of_row D w.heap.size 2 _ _ p1
      have q3 : D.cell? ⟨b6 + 1, 3, none⟩ = some (.int .i64 h) := cell_of_row D _ 3 _ _ _ p3
      have r3 : D.cell? ⟨w.heap.size, 3, none⟩ = some (.int .i64 0) := cell_of_row D _ 3 _ _ _ p1
      have f3 := frozen_of_row D w.heap.size 3 _ _ p1
      have q4 : D.cell? ⟨b6 + 1, 4, none⟩ = some (.int .i64 mi) := cell_of_row D _ 4 _ _ _ p3
      have r4 : D.cell? ⟨w.heap.size, 4, none⟩ = some (.int .i64 0) := cell_of_row D _ 4 _ _ _ p1
      have f4 := frozen_of_row D w.heap.size 4 _ _ p1
      have q5 : D.cell? ⟨b6 + 1, 5, none⟩ = some (.int .i64 x) := cell_of_row D _ 5 _ _ _ p3
      have r5 : D.cell? ⟨w.heap.size, 5, none⟩ = some (.int .i64 0) := cell_of_row D _ 5 _ _ _ p1
      have f5 := frozen_of_row D w.heap.size 5 _ _ p1
      have D1 := Lib.hid p1
      have D3 := Lib.hid p3
      have D4 := Lib.hid p4
      clear p1 p3 p4 hBD
      by_cases c2 : TimeIs h mi x
      · rw [show decide (TimeIs h mi x) = true from decide_eq_true c2]
        have C2 := Lib.hid c2
        clear c2
        go_wp2
        have hrow := (heap_setCell_same _ w.heap.size 5 _ _ (.int .i64 x) (heap_setCell_same _ w.heap.size 4 _ _ (.int .i64 mi) (heap_setCell_same _ w.heap.size 3 _ _ (.int .i64 h) (heap_setCell_same _ w.heap.size 2 _ _ (.int .i64 d) (heap_setCell_same _ w.heap.size 1 _ _ (.int .i64 m) (heap_setCell_same _ w.heap.size 0 _ _ (.int .i64 y) D1.out))))))
        refine bodyPost_ret (results_read rfl rfl hrow) rfl ?_
        exact ⟨by rw [HRV.out, if_pos ⟨trivial, C1.out, C2.out⟩], ((((((D4.out.setCell (p := ⟨w.heap.size, 0, none⟩) (by simp) _).setCell (p := ⟨w.heap.size, 1, none⟩) (by simp) _).setCell (p := ⟨w.heap.size, 2, none⟩) (by simp) _).setCell (p := ⟨w.heap.size, 3, none⟩) (by simp) _).setCell (p := ⟨w.heap.size, 4, none⟩) (by simp) _).setCell (p := ⟨w.heap.size, 5, none⟩) (by simp) _)⟩
      · rw [show decide (TimeIs h mi x) = false from decide_eq_false c2]
        have C2 := Lib.hid c2
        clear c2
        go_wp2
        have hrow := (heap_setCell_same _ w.heap.size 5 _ _ (.int .i64 0) (heap_setCell_same _ w.heap.size 4 _ _ (.int .i64 0) (heap_setCell_same _ w.heap.size 3 _ _ (.int .i64 0) (heap_setCell_same _ w.heap.size 2 _ _ (.int .i64 0) (heap_setCell_same _ w.heap.size 1 _ _ (.int .i64 0) (heap_setCell_same _ w.heap.size 0 _ _ (.int .i64 0) D1.out))))))
        refine bodyPost_ret (results_read rfl rfl hrow) rfl ?_
        exact ⟨by rw [HRV.out, if_neg (fun hc => C2.out hc.2.2)], ((((((D4.out.setCell (p := ⟨w.heap.size, 0, none⟩) (by simp) _).setCell (p := ⟨w.heap.size, 1, none⟩) (by simp) _).setCell (p := ⟨w.heap.size, 2, none⟩) (by simp) _).setCell (p := ⟨w.heap.size, 3, none⟩) (by simp) _).setCell (p := ⟨w.heap.size, 4, none⟩) (by simp) _).setCell (p := ⟨w.heap.size, 5, none⟩) (by simp) _)⟩
    · have hck := HCK.out
      rw [mayE_no c1] at hck
      have HK := Lib.hid hck
      have C1 := Lib.hid c1
      clear hck HCK c1
      go_wp2_with fail
      refine HK.out.mono ?_
      rintro e A ⟨rfl, hBA⟩
      have p1 := (hBA.block w.heap.size (Array.getElem?_eq_some_iff.1 V1.out).1).trans V1.out
      have p3 := (hBA.block (b6 + 1) (Array.getElem?_eq_some_iff.1 V3.out).1).trans V3.out
      have p4 := V4.out.trans (hBA.mono V4.out.size)
      clear q0 r0 f0 q1 r1 f1 q2 r2 f2 q3 r3 f3 q4 r4 f4 q5 r5 f5
      have q0 : A.cell? ⟨b6 + 1, 0, none⟩ = some (.int .i64 y) := cell_of_row A _ 0 _ _ _ p3
      have r0 : A.cell? ⟨w.heap.size, 0, none⟩ = some (.int .i64 0) := cell_of_row A _ 0 _ _ _ p1
      have f0 := frozen_of_row A w.heap.size 0 _ _ p1
      have q1 : A.cell? ⟨b6 + 1, 1, none⟩ = some (.int .i64 m) := cell_of_row A _ 1 _ _ _ p3
      have r1 : A.cell? ⟨w.heap.size, 1, none⟩ = some (.int .i64 0) := cell_of_row A _ 1 _ _ _ p1
      have f1 := frozen_of_row A w.heap.size 1 _ _ p1
      have q2 : A.cell? ⟨b6 + 1, 2, none⟩ = some (.int .i64 d) := cell_of_row A _ 2 _ _ _ p3
      have r2 : A.cell? ⟨w.heap.size, 2, none⟩ = some (.int .i64 0) := cell_of_row A _ 2 _ _ _ p1
      have f2 := frozen_of_row A w.heap.size 2 _ _ p1
      have q3 : A.cell? ⟨b6 + 1, 3, none⟩ = some (.int .i64 h) := cell_of_row A _ 3 _ _ _ p3
      have r3 : A.cell? ⟨w.heap.size, 3, none⟩ = some (.int .i64 0) := cell_of_row A _ 3 _ _ _ p1
      have f3 := frozen_of_row A w.heap.size 3 _ _ p1
      have q4 : A.cell? ⟨b6 + 1, 4, none⟩ = some (.int .i64 mi) := cell_of_row A _ 4 _ _ _ p3
      have r4 : A.cell? ⟨w.heap.size, 4, none⟩ = some (.int .i64 0) := cell_of_row A _ 4 _ _ _ p1
      have f4 := frozen_of_row A w.heap.size 4 _ _ p1
      have q5 : A.cell? ⟨b6 + 1, 5, none⟩ = some (.int .i64 x) := cell_of_row A _ 5 _ _ _ p3
      have r5 : A.cell? ⟨w.heap.size, 5, none⟩ = some (.int .i64 0) := cell_of_row A _ 5 _ _ _ p1
      have f5 := frozen_of_row A w.heap.size 5 _ _ p1
      have A1 := Lib.hid p1
      have A3 := Lib.hid p3
      have A4 := Lib.hid p4
      clear p1 p3 p4 hBA
      go_wp2
      have hrow := (heap_setCell_same _ w.heap.size 5 _ _ (.int .i64 0) (heap_setCell_same _ w.heap.size 4 _ _ (.int .i64 0) (heap_setCell_same _ w.heap.size 3 _ _ (.int .i64 0) (heap_setCell_same _ w.heap.size 2 _ _ (.int .i64 0) (heap_setCell_same _ w.heap.size 1 _ _ (.int .i64 0) (heap_setCell_same _ w.heap.size 0 _ _ (.int .i64 0) A1.out))))))
      refine bodyPost_ret (results_read rfl rfl hrow) rfl ?_
      exact ⟨by rw [HRV.out, if_neg (fun hc => C1.out hc.2.1)], ((((((A4.out.setCell (p := ⟨w.heap.size, 0, none⟩) (by simp) _).setCell (p := ⟨w.heap.size, 1, none⟩) (by simp) _).setCell (p := ⟨w.heap.size, 2, none⟩) (by simp) _).setCell (p := ⟨w.heap.size, 3, none⟩) (by simp) _).setCell (p := ⟨w.heap.size, 4, none⟩) (by simp) _).setCell (p := ⟨w.heap.size, 5, none⟩) (by simp) _)⟩
/-- What a text says by a shape. -/
def Says (fs xs : List Int) : Prop := Fits fs xs ∧ MomIs (num fs xs fs.length 0) (num fs xs fs.length 1) (num fs xs fs.length 2) (num fs xs fs.length 3) (num fs xs fs.length 4) (num fs xs fs.length 5)
instance (fs xs : List Int) : Decidable (Says fs xs) := by unfold Says; infer_instance
theorem read_any (s F : ByteArray) (hF : ShapeOk (strB F)) (hs : s.size ≤ 1000) (w : World) (hT : Tabs w) :
    Calls Tryd.prog 42 #[.string s, .string F] w fun e w' => e = .returned (if Says (strB F) (strB s) then .tuple #[momV (num (strB F) (strB s) (strB F).length 0) (num (strB F) (strB s) (strB F).length 1) (num (strB F) (strB s) (strB F).length 2) (num (strB F) (strB s) (strB F).length 3) (num (strB F) (strB s) (strB F).length 4) (num (strB F) (strB s) (strB F).length 5), .int .i64 0] else .tuple #[momV 0 0 0 0 0 0, .int .i64 60]) ∧ Below w.heap.size w w' := by
  by_cases hl : s.size = F.size
  · have hlen : (strB F).length = s.size := by rw [strB_length, hl]
    by_cases hf : Fits (strB F) (strB s)
    · have := read_walk s F (num (strB F) (strB s) s.size 0) (num (strB F) (strB s) s.size 1) (num (strB F) (strB s) s.size 2) (num (strB F) (strB s) s.size 3) (num (strB F) (strB s) s.size 4) (num (strB F) (strB s) s.size 5) true w hT (fun X => (numbers_go s F hl hF hs X).mono fun e w' ⟨he, hB⟩ => ⟨he.elim (fun h => h.2) (fun h => absurd hf h.1), hB⟩)
      refine this.mono ?_
      rintro e w' ⟨rfl, hB⟩
      refine ⟨?_, hB⟩
      rw [hlen]
      by_cases hm : MomIs (num (strB F) (strB s) s.size 0) (num (strB F) (strB s) s.size 1) (num (strB F) (strB s) s.size 2) (num (strB F) (strB s) s.size 3) (num (strB F) (strB s) s.size 4) (num (strB F) (strB s) s.size 5)
      · rw [if_pos ⟨rfl, hm⟩, if_pos ⟨hf, by rw [hlen]; exact hm⟩]
      · rw [if_neg (fun h => hm h.2), if_neg (fun h => hm (by have := h.2; rw [hlen] at this; exact this))]
    · have := read_walk s F 0 0 0 0 0 0 false w hT (fun X => (numbers_go s F hl hF hs X).mono fun e w' ⟨he, hB⟩ => ⟨he.elim (fun h => absurd h.1 hf) (fun h => h.2), hB⟩)
      refine this.mono ?_
      rintro e w' ⟨rfl, hB⟩
      rw [if_neg (fun h => by cases h.1), if_neg (fun h => hf h.1)]
      exact ⟨rfl, hB⟩
  · have := read_walk s F 0 0 0 0 0 0 false w hT (fun X => numbers_len s F hl X)
    refine this.mono ?_
    rintro e w' ⟨rfl, hB⟩
    rw [if_neg (fun h => by cases h.1), if_neg (fun h => hl (by have := h.1.1; rw [strB_length, strB_length] at this; exact this))]
    exact ⟨rfl, hB⟩
theorem strB_dateF : strB ⟨#[48, 48, 48, 48, 45, 48, 48, 45, 48, 48]⟩ = dateF := by decide
theorem strB_momF : strB ⟨#[48, 48, 48, 48, 45, 48, 48, 45, 48, 48, 84, 48, 48, 58, 48, 48, 58, 48, 48]⟩ = momF := by decide
theorem results_parse {y m d e : Int} {b : Nat} {tmps : Array Value} {w : World} (h2 : tmps.getD 2 undef = .pointer (some ⟨b, 0, none⟩)) (h3 : tmps.getD 3 undef = .int .i64 e)
    (hb : w.heap[b]? = some (.cells #[.int .i64 y, .int .i64 m, .int .i64 d] 23 (0, 0))) : (results Tryd.f29 tmps).run Tryd.prog w = .ok (.tuple #[dateV y m d, .int .i64 e]) w := by
  have c0 : w.cell? ⟨b, 0, none⟩ = some (.int .i64 y) := cell_of_row w b 0 _ _ _ hb
  have c1 : w.cell? ⟨b, 1, none⟩ = some (.int .i64 m) := cell_of_row w b 1 _ _ _ hb
  have c2 : w.cell? ⟨b, 2, none⟩ = some (.int .i64 d) := cell_of_row w b 2 _ _ _ hb
  simp only [Array.getD_eq_getD_getElem?] at h2 h3
  simp [results, Tryd.results29, go_sem, h2, h3, c0, c1, c2, dateV]
theorem results_parseAt {y m d h mi s e : Int} {b : Nat} {tmps : Array Value} {w : World} (h2 : tmps.getD 2 undef = .pointer (some ⟨b, 0, none⟩)) (h3 : tmps.getD 3 undef = .int .i64 e)
    (hb : w.heap[b]? = some (.cells #[.int .i64 y, .int .i64 m, .int .i64 d, .int .i64 h, .int .i64 mi, .int .i64 s] 40 (0, 0))) : (results Tryd.f31 tmps).run Tryd.prog w = .ok (.tuple #[momV y m d h mi s, .int .i64 e]) w := by
  have c0 : w.cell? ⟨b, 0, none⟩ = some (.int .i64 y) := cell_of_row w b 0 _ _ _ hb
  have c1 : w.cell? ⟨b, 1, none⟩ = some (.int .i64 m) := cell_of_row w b 1 _ _ _ hb
  have c2 : w.cell? ⟨b, 2, none⟩ = some (.int .i64 d) := cell_of_row w b 2 _ _ _ hb
  have c3 : w.cell? ⟨b, 3, none⟩ = some (.int .i64 h) := cell_of_row w b 3 _ _ _ hb
  have c4 : w.cell? ⟨b, 4, none⟩ = some (.int .i64 mi) := cell_of_row w b 4 _ _ _ hb
  have c5 : w.cell? ⟨b, 5, none⟩ = some (.int .i64 s) := cell_of_row w b 5 _ _ _ hb
  simp only [Array.getD_eq_getD_getElem?] at h2 h3
  simp [results, Tryd.results31, go_sem, h2, h3, c0, c1, c2, c3, c4, c5, momV]
theorem parse_walk (s : ByteArray) (y m d h mi x e : Int) (w : World)
    (hR : ∀ X, Below w.heap.size w X → Calls Tryd.prog 42 #[.string s, .string ⟨#[48, 48, 48, 48, 45, 48, 48, 45, 48, 48]⟩] X fun r w' => r = .returned (.tuple #[momV y m d h mi x, .int .i64 e]) ∧ Below X.heap.size X w') :
    Calls Tryd.prog 29 #[.string s] w fun r w' => r = .returned (.tuple #[dateV y m d, .int .i64 e]) ∧ Below w.heap.size w w' := by
  have hb0 := (Below.refl _ w).alloc (Nat.le_refl _) (.cells #[.int .i64 0, .int .i64 0, .int .i64 0] 23)
  have hr := heap_alloc_new w (.cells #[.int .i64 0, .int .i64 0, .int .i64 0] 23)
  have HB0 := Lib.hid hb0
  have HR0 := Lib.hid hr
  have HR := Lib.hid hR
  clear hb0 hr hR
  go_enter Tryd.func29, Tryd.ntmps29
  go_wp2_with fail
  refine (HR.out _ HB0.out).mono ?_
  rintro r w1 ⟨rfl, hB1⟩
  have hr1 := (hB1.block w.heap.size (by simp)).trans HR0.out
  have hlt : w.heap.size < w1.heap.size := (Array.getElem?_eq_some_iff.1 hr1).1
  have HB1 := Lib.hid (HB0.out.trans (hB1.mono (by simp)))
  have r0 : w1.cell? ⟨w.heap.size, 0, none⟩ = some (.int .i64 0) := cell_of_row w1 _ 0 _ _ _ hr1
  have r1 : w1.cell? ⟨w.heap.size, 1, none⟩ = some (.int .i64 0) := cell_of_row w1 _ 1 _ _ _ hr1
  have r2 : w1.cell? ⟨w.heap.size, 2, none⟩ = some (.int .i64 0) := cell_of_row w1 _ 2 _ _ _ hr1
  have f0 := frozen_of_row w1 w.heap.size 0 _ _ hr1
  have f1 := frozen_of_row w1 w.heap.size 1 _ _ hr1
  have f2 := frozen_of_row w1 w.heap.size 2 _ _ hr1
  have HR1 := Lib.hid hr1
  clear hB1 hr1 HR
  go_wp2
  have hrow := (heap_setCell_same _ w.heap.size 2 _ _ (.int .i64 d) (heap_setCell_same _ w.heap.size 1 _ _ (.int .i64 m) (heap_setCell_same _ w.heap.size 0 _ _ (.int .i64 y) HR1.out)))
  have hbel := (((HB1.out.setCell (p := ⟨w.heap.size, 0, none⟩) (by simp) (.int .i64 y)).setCell (p := ⟨w.heap.size, 1, none⟩) (by simp) (.int .i64 m)).setCell (p := ⟨w.heap.size, 2, none⟩) (by simp) (.int .i64 d))
  refine bodyPost_ret (results_parse rfl rfl (heap_old hrow _)) rfl ?_
  exact ⟨rfl, hbel.alloc hbel.size _⟩
theorem parseAt_walk (s : ByteArray) (y m d h mi x e : Int) (w : World)
    (hR : ∀ X, Below w.heap.size w X → Calls Tryd.prog 42 #[.string s, .string ⟨#[48, 48, 48, 48, 45, 48, 48, 45, 48, 48, 84, 48, 48, 58, 48, 48, 58, 48, 48]⟩] X fun r w' => r = .returned (.tuple #[momV y m d h mi x, .int .i64 e]) ∧ Below X.heap.size X w') :
    Calls Tryd.prog 31 #[.string s] w fun r w' => r = .returned (.tuple #[momV y m d h mi x, .int .i64 e]) ∧ Below w.heap.size w w' := by
  have hb0 := (Below.refl _ w).alloc (Nat.le_refl _) (.cells #[.int .i64 0, .int .i64 0, .int .i64 0, .int .i64 0, .int .i64 0, .int .i64 0] 40)
  have hr := heap_alloc_new w (.cells #[.int .i64 0, .int .i64 0, .int .i64 0, .int .i64 0, .int .i64 0, .int .i64 0] 40)
  have HB0 := Lib.hid hb0
  have HR0 := Lib.hid hr
  have HR := Lib.hid hR
  clear hb0 hr hR
  go_enter Tryd.func31, Tryd.ntmps31
  go_wp2_with fail
  refine (HR.out _ HB0.out).mono ?_
  rintro r w1 ⟨rfl, hB1⟩
  have hr1 := (hB1.block w.heap.size (by simp)).trans HR0.out
  have hlt : w.heap.size < w1.heap.size := (Array.getElem?_eq_some_iff.1 hr1).1
  have HB1 := Lib.hid (HB0.out.trans (hB1.mono (by simp)))
  have r0 : w1.cell? ⟨w.heap.size, 0, none⟩ = some (.int .i64 0) := cell_of_row w1 _ 0 _ _ _ hr1
  have f0 := frozen_of_row w1 w.heap.size 0 _ _ hr1
  have r1 : w1.cell? ⟨w.heap.size, 1, none⟩ = some (.int .i64 0) := cell_of_row w1 _ 1 _ _ _ hr1
  have f1 := frozen_of_row w1 w.heap.size 1 _ _ hr1
  have r2 : w1.cell? ⟨w.heap.size, 2, none⟩ = some (.int .i64 0) := cell_of_row w1 _ 2 _ _ _ hr1
  have f2 := frozen_of_row w1 w.heap.size 2 _ _ hr1
  have r3 : w1.cell? ⟨w.heap.size, 3, none⟩ = some (.int .i64 0) := cell_of_row w1 _ 3 _ _ _ hr1
  have f3 := frozen_of_row w1 w.heap.size 3 _ _ hr1
  have r4 : w1.cell? ⟨w.heap.size, 4, none⟩ = some (.int .i64 0) := cell_of_row w1 _ 4 _ _ _ hr1
  have f4 := frozen_of_row w1 w.heap.size 4 _ _ hr1
  have r5 : w1.cell? ⟨w.heap.size, 5, none⟩ = some (.int .i64 0) := cell_of_row w1 _ 5 _ _ _ hr1
  have f5 := frozen_of_row w1 w.heap.size 5 _ _ hr1
  have HR1 := Lib.hid hr1
  clear hB1 hr1 HR
  go_wp2
  have hrow := (heap_setCell_same _ w.heap.size 5 _ _ (.int .i64 x) (heap_setCell_same _ w.heap.size 4 _ _ (.int .i64 mi) (heap_setCell_same _ w.heap.size 3 _ _ (.int .i64 h) (heap_setCell_same _ w.heap.size 2 _ _ (.int .i64 d) (heap_setCell_same _ w.heap.size 1 _ _ (.int .i64 m) (heap_setCell_same _ w.heap.size 0 _ _ (.int .i64 y) HR1.out))))))
  refine bodyPost_ret (results_parseAt rfl rfl hrow) rfl ?_
  exact ⟨rfl, ((((((HB1.out.setCell (p := ⟨w.heap.size, 0, none⟩) (by simp) _).setCell (p := ⟨w.heap.size, 1, none⟩) (by simp) _).setCell (p := ⟨w.heap.size, 2, none⟩) (by simp) _).setCell (p := ⟨w.heap.size, 3, none⟩) (by simp) _).setCell (p := ⟨w.heap.size, 4, none⟩) (by simp) _).setCell (p := ⟨w.heap.size, 5, none⟩) (by simp) _)⟩
theorem says_date (xs : List Int) : Says dateF xs ↔ Fits dateF xs ∧ May (num dateF xs 10 0) (num dateF xs 10 1) (num dateF xs 10 2) := by
  have h3 : num dateF xs 10 3 = 0 := by simp [num, dateF, plc]
  have h4 : num dateF xs 10 4 = 0 := by simp [num, dateF, plc]
  have h5 : num dateF xs 10 5 = 0 := by simp [num, dateF, plc]
  unfold Says
  rw [show dateF.length = 10 from rfl, h3, h4, h5]
  constructor
  · rintro ⟨a, b⟩; exact ⟨a, b.1⟩
  · rintro ⟨a, b⟩; exact ⟨a, b, by decide⟩
theorem parse_yes (s : ByteArray) (h : Says dateF (strB s)) (w : World) (hT : Tabs w) :
    Calls Tryd.prog 29 #[.string s] w fun r w' => r = .returned (.tuple #[dateV (num dateF (strB s) 10 0) (num dateF (strB s) 10 1) (num dateF (strB s) 10 2), .int .i64 0]) ∧ Below w.heap.size w w' := by
  have hsz : s.size ≤ 1000 := by have := h.1.1; rw [strB_length] at this; rw [this]; decide
  refine parse_walk s _ _ _ (num dateF (strB s) 10 3) (num dateF (strB s) 10 4) (num dateF (strB s) 10 5) 0 w (fun X hX => ?_)
  have := read_any s ⟨#[48, 48, 48, 48, 45, 48, 48, 45, 48, 48]⟩ (by rw [strB_dateF]; exact dateF_ok) hsz X (hT.next hX)
  rw [strB_dateF, if_pos h] at this
  exact this
theorem parse_no (s : ByteArray) (hs : s.size ≤ 1000) (h : ¬ Says dateF (strB s)) (w : World) (hT : Tabs w) :
    Calls Tryd.prog 29 #[.string s] w fun r w' => r = .returned (.tuple #[dateV 0 0 0, .int .i64 60]) ∧ Below w.heap.size w w' := by
  refine parse_walk s 0 0 0 0 0 0 60 w (fun X hX => ?_)
  have := read_any s ⟨#[48, 48, 48, 48, 45, 48, 48, 45, 48, 48]⟩ (by rw [strB_dateF]; exact dateF_ok) hs X (hT.next hX)
  rw [strB_dateF, if_neg h] at this
  exact this
theorem parseAt_yes (s : ByteArray) (h : Says momF (strB s)) (w : World) (hT : Tabs w) :
    Calls Tryd.prog 31 #[.string s] w fun r w' => r = .returned (.tuple #[momV (num momF (strB s) 19 0) (num momF (strB s) 19 1) (num momF (strB s) 19 2) (num momF (strB s) 19 3) (num momF (strB s) 19 4) (num momF (strB s) 19 5), .int .i64 0]) ∧ Below w.heap.size w w' := by
  have hsz : s.size ≤ 1000 := by have := h.1.1; rw [strB_length] at this; rw [this]; decide
  refine parseAt_walk s _ _ _ _ _ _ 0 w (fun X hX => ?_)
  have := read_any s ⟨#[48, 48, 48, 48, 45, 48, 48, 45, 48, 48, 84, 48, 48, 58, 48, 48, 58, 48, 48]⟩ (by rw [strB_momF]; exact momF_ok) hsz X (hT.next hX)
  rw [strB_momF, if_pos h] at this
  exact this
theorem parseAt_no (s : ByteArray) (hs : s.size ≤ 1000) (h : ¬ Says momF (strB s)) (w : World) (hT : Tabs w) :
    Calls Tryd.prog 31 #[.string s] w fun r w' => r = .returned (.tuple #[momV 0 0 0 0 0 0, .int .i64 60]) ∧ Below w.heap.size w w' := by
  refine parseAt_walk s 0 0 0 0 0 0 60 w (fun X hX => ?_)
  have := read_any s ⟨#[48, 48, 48, 48, 45, 48, 48, 45, 48, 48, 84, 48, 48, 58, 48, 48, 58, 48, 48]⟩ (by rw [strB_momF]; exact momF_ok) hs X (hT.next hX)
  rw [strB_momF, if_neg h] at this
  exact this
end Go.Proofs.YtjlejpenegjbcaaDoor
