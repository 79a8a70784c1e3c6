/- The contract of datesNear. -/
import Derived.Test.YtgedcfgmfhlkdaaDoorHPas
set_option linter.unusedVariables false
set_option linter.unusedSimpArgs false
namespace Go.Proofs.YtgedcfgmfhlkdaaDoor
open Go.RowKit Go.Shelf
theorem results_near {a b c d e f : Int} {B : Nat} {tmps : Array Value} {w : World} (h2 : tmps.getD 4 undef = .pointer (some ⟨B, 0, none⟩))
    (hb : w.heap[B]? = some (.cells (hoC a b c d e f) 84 (0, 0))) : (results Tryd.f58 tmps).run Tryd.prog w = .ok (.agg (hoC a b c d e f)) w := by
  have c0 : w.cell? ⟨B, 0, none⟩ = some (.int .i64 a) := cell_of_row w B 0 _ _ _ hb
  have c1 : w.cell? ⟨B, 1, none⟩ = some (.int .i64 b) := cell_of_row w B 1 _ _ _ hb
  have c2 : w.cell? ⟨B, 2, none⟩ = some (.int .i64 c) := cell_of_row w B 2 _ _ _ hb
  have c3 : w.cell? ⟨B, 3, none⟩ = some (.int .i64 d) := cell_of_row w B 3 _ _ _ hb
  have c4 : w.cell? ⟨B, 4, none⟩ = some (.int .i64 e) := cell_of_row w B 4 _ _ _ hb
  have c5 : w.cell? ⟨B, 5, none⟩ = some (.int .i64 f) := cell_of_row w B 5 _ _ _ hb
  simp only [Array.getD_eq_getD_getElem?] at h2
  simp [results, Tryd.results58, go_sem, h2, c0, c1, c2, c3, c4, c5]
theorem set6a {Z : World} {B : Nat} {x0 x1 x2 x3 x4 x5 : Int} (h : Z.heap[B]? = some (.cells (hoC x0 x1 x2 x3 x4 x5) 84 (0, 0))) (a b c d e f : Int) :
    ((((((Z.setCell ⟨B, 0, none⟩ (.int .i64 a)).setCell ⟨B, 1, none⟩ (.int .i64 b)).setCell ⟨B, 2, none⟩ (.int .i64 c)).setCell ⟨B, 3, none⟩ (.int .i64 d)).setCell ⟨B, 4, none⟩ (.int .i64 e)).setCell ⟨B, 5, none⟩ (.int .i64 f)).heap[B]? = some (.cells (hoC a b c d e f) 84 (0, 0)) :=
  heap_setCell_same _ B 5 _ _ _ (heap_setCell_same _ B 4 _ _ _ (heap_setCell_same _ B 3 _ _ _ (heap_setCell_same _ B 2 _ _ _ (heap_setCell_same _ B 1 _ _ _ (heap_setCell_same _ B 0 _ _ _ h)))))
theorem set3a {Z : World} {B : Nat} {x0 x1 x2 x3 x4 x5 : Int} (h : Z.heap[B]? = some (.cells (hoC x0 x1 x2 x3 x4 x5) 84 (0, 0))) (a b c : Int) :
    (((Z.setCell ⟨B, 0, none⟩ (.int .i64 a)).setCell ⟨B, 1, none⟩ (.int .i64 b)).setCell ⟨B, 2, none⟩ (.int .i64 c)).heap[B]? = some (.cells (hoC a b c x3 x4 x5) 84 (0, 0)) :=
  heap_setCell_same _ B 2 _ _ _ (heap_setCell_same _ B 1 _ _ _ (heap_setCell_same _ B 0 _ _ _ h))
theorem set3_other {Z : World} {B C : Nat} (hne : C ≠ B) (a b c : Int) :
    (((Z.setCell ⟨B, 0, none⟩ (.int .i64 a)).setCell ⟨B, 1, none⟩ (.int .i64 b)).setCell ⟨B, 2, none⟩ (.int .i64 c)).heap[C]? = Z.heap[C]? :=
  (heap_setCell_other _ ⟨B, 2, none⟩ C _ hne).trans ((heap_setCell_other _ ⟨B, 1, none⟩ C _ hne).trans (heap_setCell_other _ ⟨B, 0, none⟩ C _ hne))
theorem set6_other {Z : World} {B C : Nat} (hne : C ≠ B) (a b c d e f : Int) :
    ((((((Z.setCell ⟨B, 0, none⟩ (.int .i64 a)).setCell ⟨B, 1, none⟩ (.int .i64 b)).setCell ⟨B, 2, none⟩ (.int .i64 c)).setCell ⟨B, 3, none⟩ (.int .i64 d)).setCell ⟨B, 4, none⟩ (.int .i64 e)).setCell ⟨B, 5, none⟩ (.int .i64 f)).heap[C]? = Z.heap[C]? :=
  (heap_setCell_other _ ⟨B, 5, none⟩ C _ hne).trans ((heap_setCell_other _ ⟨B, 4, none⟩ C _ hne).trans ((heap_setCell_other _ ⟨B, 3, none⟩ C _ hne).trans (set3_other hne a b c)))
theorem cells6a {W : World} {B : Nat} {k y m d v n : Int} {U : TypeId} {fr : Nat × Nat} (h : W.heap[B]? = some (.cells (hoC k y m d v n) U fr)) :
    W.cell? ⟨B, 0, none⟩ = some (.int .i64 k) ∧ W.cell? ⟨B, 1, none⟩ = some (.int .i64 y) ∧ W.cell? ⟨B, 2, none⟩ = some (.int .i64 m) ∧ W.cell? ⟨B, 3, none⟩ = some (.int .i64 d) ∧ W.cell? ⟨B, 4, none⟩ = some (.int .i64 v) ∧ W.cell? ⟨B, 5, none⟩ = some (.int .i64 n) :=
  ⟨cell_of_row W B 0 _ _ _ h, cell_of_row W B 1 _ _ _ h, cell_of_row W B 2 _ _ _ h, cell_of_row W B 3 _ _ _ h, cell_of_row W B 4 _ _ _ h, cell_of_row W B 5 _ _ _ h⟩
theorem frozen6a {W : World} {B : Nat} {k y m d v n : Int} {U : TypeId} (h : W.heap[B]? = some (.cells (hoC k y m d v n) U (0, 0))) :
    W.frozen? ⟨B, 0, none⟩ = false ∧ W.frozen? ⟨B, 1, none⟩ = false ∧ W.frozen? ⟨B, 2, none⟩ = false ∧ W.frozen? ⟨B, 3, none⟩ = false ∧ W.frozen? ⟨B, 4, none⟩ = false ∧ W.frozen? ⟨B, 5, none⟩ = false :=
  ⟨frozen_of_row W B 0 _ _ h, frozen_of_row W B 1 _ _ h, frozen_of_row W B 2 _ _ h, frozen_of_row W B 3 _ _ h, frozen_of_row W B 4 _ _ h, frozen_of_row W B 5 _ _ h⟩
set_option maxRecDepth 100000 in
set_option maxHeartbeats 2000000 in
theorem near_2 (yy y m d v n : Int) (w : World) (hT : Tabs w) :
    Calls Tryd.prog 58 #[.agg (hoC 2 y m d v n), .int .i64 yy] w fun e w' => e = .returned (.agg (hoC y m d 0 0 0)) ∧ Below w.heap.size w w' := by
  have e1 : w.heap.size + 1 = (w.alloc (.cells (hoC 2 y m d v n) 50)).heap.size := by rw [World.size_alloc]
  have e2 : w.heap.size + 1 + 1 = ((w.alloc (.cells (hoC 2 y m d v n) 50)).alloc (.cells (hoC 0 0 0 0 0 0) 84)).heap.size := by rw [World.size_alloc, World.size_alloc]
  have r0 : (((w.alloc (.cells (hoC 2 y m d v n) 50)).alloc (.cells (hoC 0 0 0 0 0 0) 84)).alloc (.cells (hoC 0 0 0 0 0 0) 84)).heap[w.heap.size]? = some (.cells (hoC 2 y m d v n) 50) := heap_old (heap_old (heap_alloc_new w _) _) _
  have r1 : (((w.alloc (.cells (hoC 2 y m d v n) 50)).alloc (.cells (hoC 0 0 0 0 0 0) 84)).alloc (.cells (hoC 0 0 0 0 0 0) 84)).heap[w.heap.size + 1]? = some (.cells (hoC 0 0 0 0 0 0) 84) := heap_old (by rw [e1]; exact heap_alloc_new _ _) _
  have r2 : (((w.alloc (.cells (hoC 2 y m d v n) 50)).alloc (.cells (hoC 0 0 0 0 0 0) 84)).alloc (.cells (hoC 0 0 0 0 0 0) 84)).heap[w.heap.size + 1 + 1]? = some (.cells (hoC 0 0 0 0 0 0) 84) := by rw [e2]; exact heap_alloc_new _ _
  have hb : Below w.heap.size w (((w.alloc (.cells (hoC 2 y m d v n) 50)).alloc (.cells (hoC 0 0 0 0 0 0) 84)).alloc (.cells (hoC 0 0 0 0 0 0) 84)) := (((Below.refl _ w).alloc (Nat.le_refl _) _).alloc (by simp) _).alloc (by simp; omega) _
  have hzs : (((w.alloc (.cells (hoC 2 y m d v n) 50)).alloc (.cells (hoC 0 0 0 0 0 0) 84)).alloc (.cells (hoC 0 0 0 0 0 0) 84)).heap.size = w.heap.size + 3 := by simp [World.size_alloc]
  obtain ⟨X, hX⟩ : ∃ X, X = (((w.alloc (.cells (hoC 2 y m d v n) 50)).alloc (.cells (hoC 0 0 0 0 0 0) 84)).alloc (.cells (hoC 0 0 0 0 0 0) 84)) := ⟨_, rfl⟩
  rw [← hX] at r0 r1 r2 hb hzs
  have HR1 := Lib.hid r1
  have HR2 := Lib.hid r2
  have HB := Lib.hid hb
  have HX := Lib.hid hX
  have HT := Lib.hid (hT.next hb)
  clear r0 r1 r2 hb hX hT e1 e2
  go_enter Tryd.func58, Tryd.ntmps58
  go_wp2_with fail
  rw [← HX.out]
  refine (dateIn_any ⟨2, y, m, d, v, n⟩ X).mono ?_
  rintro e w2 ⟨rfl, hB2⟩
  have z1 := (hB2.block (w.heap.size + 1) (by omega)).trans HR1.out
  have z2 := (hB2.block (w.heap.size + 1 + 1) (by omega)).trans HR2.out
  have hbf := HB.out.trans (hB2.mono (by omega))
  obtain ⟨a0, a1, a2, a3, a4, a5⟩ := cells6a z2
  obtain ⟨f0, f1, f2, _, _, _⟩ := frozen6a z2
  obtain ⟨b0, b1, b2, b3, b4, b5⟩ := cells6a z1
  obtain ⟨g0, g1, g2, g3, g4, g5⟩ := frozen6a z1
  have HF := Lib.hid (set6a (Z := ((w2.setCell ⟨w.heap.size + 1 + 1, 0, none⟩ (.int .i64 (y))).setCell ⟨w.heap.size + 1 + 1, 1, none⟩ (.int .i64 (m))).setCell ⟨w.heap.size + 1 + 1, 2, none⟩ (.int .i64 (d))) ((set3_other (by omega) (y) (m) (d)).trans z1) (y) (m) (d) 0 0 0)
  have HBF := Lib.hid (set6_below (set3_below hbf (B := w.heap.size + 1 + 1) (by omega) (y) (m) (d)) (B := w.heap.size + 1) (by omega) (y) (m) (d) 0 0 0)
  clear hB2 z1 z2 hbf
  go_wp2
  refine bodyPost_ret (results_near rfl HF.out) rfl ?_
  exact ⟨rfl, HBF.out⟩
set_option maxRecDepth 100000 in
set_option maxHeartbeats 2000000 in
theorem near_1 (yy y m d v n : Int) (w : World) (hT : Tabs w) :
    Calls Tryd.prog 58 #[.agg (hoC 1 y m d v n), .int .i64 yy] w fun e w' => e = .returned (.agg (hoC yy m d 0 0 0)) ∧ Below w.heap.size w w' := by
  have e1 : w.heap.size + 1 = (w.alloc (.cells (hoC 1 yy m d v n) 50)).heap.size := by rw [World.size_alloc]
  have e2 : w.heap.size + 1 + 1 = ((w.alloc (.cells (hoC 1 yy m d v n) 50)).alloc (.cells (hoC 0 0 0 0 0 0) 84)).heap.size := by rw [World.size_alloc, World.size_alloc]
  have r0 : (((w.alloc (.cells (hoC 1 yy m d v n) 50)).alloc (.cells (hoC 0 0 0 0 0 0) 84)).alloc (.cells (hoC 0 0 0 0 0 0) 84)).heap[w.heap.size]? = some (.cells (hoC 1 yy m d v n) 50) := heap_old (heap_old (heap_alloc_new w _) _) _
  have r1 : (((w.alloc (.cells (hoC 1 yy m d v n) 50)).alloc (.cells (hoC 0 0 0 0 0 0) 84)).alloc (.cells (hoC 0 0 0 0 0 0) 84)).heap[w.heap.size + 1]? = some (.cells (hoC 0 0 0 0 0 0) 84) := heap_old (by rw [e1]; exact heap_alloc_new _ _) _
  have r2 : (((w.alloc (.cells (hoC 1 yy m d v n) 50)).alloc (.cells (hoC 0 0 0 0 0 0) 84)).alloc (.cells (hoC 0 0 0 0 0 0) 84)).heap[w.heap.size + 1 + 1]? = some (.cells (hoC 0 0 0 0 0 0) 84) := by rw [e2]; exact heap_alloc_new _ _
  have hb : Below w.heap.size w (((w.alloc (.cells (hoC 1 yy m d v n) 50)).alloc (.cells (hoC 0 0 0 0 0 0) 84)).alloc (.cells (hoC 0 0 0 0 0 0) 84)) := (((Below.refl _ w).alloc (Nat.le_refl _) _).alloc (by simp) _).alloc (by simp; omega) _
  have hzs : (((w.alloc (.cells (hoC 1 yy m d v n) 50)).alloc (.cells (hoC 0 0 0 0 0 0) 84)).alloc (.cells (hoC 0 0 0 0 0 0) 84)).heap.size = w.heap.size + 3 := by simp [World.size_alloc]
  obtain ⟨X, hX⟩ : ∃ X, X = (((w.alloc (.cells (hoC 1 yy m d v n) 50)).alloc (.cells (hoC 0 0 0 0 0 0) 84)).alloc (.cells (hoC 0 0 0 0 0 0) 84)) := ⟨_, rfl⟩
  rw [← hX] at r0 r1 r2 hb hzs
  have HR1 := Lib.hid r1
  have HR2 := Lib.hid r2
  have HB := Lib.hid hb
  have HX := Lib.hid hX
  have HT := Lib.hid (hT.next hb)
  clear r0 r1 r2 hb hX hT e1 e2
  go_enter Tryd.func58, Tryd.ntmps58
  go_wp2_with fail
  rw [← HX.out]
  refine (dateIn_any ⟨1, yy, m, d, v, n⟩ X).mono ?_
  rintro e w2 ⟨rfl, hB2⟩
  have z1 := (hB2.block (w.heap.size + 1) (by omega)).trans HR1.out
  have z2 := (hB2.block (w.heap.size + 1 + 1) (by omega)).trans HR2.out
  have hbf := HB.out.trans (hB2.mono (by omega))
  obtain ⟨a0, a1, a2, a3, a4, a5⟩ := cells6a z2
  obtain ⟨f0, f1, f2, _, _, _⟩ := frozen6a z2
  obtain ⟨b0, b1, b2, b3, b4, b5⟩ := cells6a z1
  obtain ⟨g0, g1, g2, g3, g4, g5⟩ := frozen6a z1
  have HF := Lib.hid (set6a (Z := ((w2.setCell ⟨w.heap.size + 1 + 1, 0, none⟩ (.int .i64 (yy))).setCell ⟨w.heap.size + 1 + 1, 1, none⟩ (.int .i64 (m))).setCell ⟨w.heap.size + 1 + 1, 2, none⟩ (.int .i64 (d))) ((set3_other (by omega) (yy) (m) (d)).trans z1) (yy) (m) (d) 0 0 0)
  have HBF := Lib.hid (set6_below (set3_below hbf (B := w.heap.size + 1 + 1) (by omega) (yy) (m) (d)) (B := w.heap.size + 1) (by omega) (yy) (m) (d) 0 0 0)
  clear hB2 z1 z2 hbf
  go_wp2
  refine bodyPost_ret (results_near rfl HF.out) rfl ?_
  exact ⟨rfl, HBF.out⟩
set_option maxRecDepth 100000 in
set_option maxHeartbeats 2000000 in
theorem near_3yes (yy y m d v n : Int) (h : NthIs yy m v n) (w : World) (hT : Tabs w) :
    Calls Tryd.prog 58 #[.agg (hoC 3 y m d v n), .int .i64 yy] w fun e w' => e = .returned (.agg (hoC yy m (nthD yy m v n) 0 0 0)) ∧ Below w.heap.size w w' := by
  have e1 : w.heap.size + 1 = (w.alloc (.cells (hoC 3 y m d v n) 50)).heap.size := by rw [World.size_alloc]
  have e2 : w.heap.size + 1 + 1 = ((w.alloc (.cells (hoC 3 y m d v n) 50)).alloc (.cells (hoC 0 0 0 0 0 0) 84)).heap.size := by rw [World.size_alloc, World.size_alloc]
  have r0 : (((w.alloc (.cells (hoC 3 y m d v n) 50)).alloc (.cells (hoC 0 0 0 0 0 0) 84)).alloc (.cells (hoC 0 0 0 0 0 0) 84)).heap[w.heap.size]? = some (.cells (hoC 3 y m d v n) 50) := heap_old (heap_old (heap_alloc_new w _) _) _
  have r1 : (((w.alloc (.cells (hoC 3 y m d v n) 50)).alloc (.cells (hoC 0 0 0 0 0 0) 84)).alloc (.cells (hoC 0 0 0 0 0 0) 84)).heap[w.heap.size + 1]? = some (.cells (hoC 0 0 0 0 0 0) 84) := heap_old (by rw [e1]; exact heap_alloc_new _ _) _
  have r2 : (((w.alloc (.cells (hoC 3 y m d v n) 50)).alloc (.cells (hoC 0 0 0 0 0 0) 84)).alloc (.cells (hoC 0 0 0 0 0 0) 84)).heap[w.heap.size + 1 + 1]? = some (.cells (hoC 0 0 0 0 0 0) 84) := by rw [e2]; exact heap_alloc_new _ _
  have hb : Below w.heap.size w (((w.alloc (.cells (hoC 3 y m d v n) 50)).alloc (.cells (hoC 0 0 0 0 0 0) 84)).alloc (.cells (hoC 0 0 0 0 0 0) 84)) := (((Below.refl _ w).alloc (Nat.le_refl _) _).alloc (by simp) _).alloc (by simp; omega) _
  have hzs : (((w.alloc (.cells (hoC 3 y m d v n) 50)).alloc (.cells (hoC 0 0 0 0 0 0) 84)).alloc (.cells (hoC 0 0 0 0 0 0) 84)).heap.size = w.heap.size + 3 := by simp [World.size_alloc]
  obtain ⟨X, hX⟩ : ∃ X, X = (((w.alloc (.cells (hoC 3 y m d v n) 50)).alloc (.cells (hoC 0 0 0 0 0 0) 84)).alloc (.cells (hoC 0 0 0 0 0 0) 84)) := ⟨_, rfl⟩
  rw [← hX] at r0 r1 r2 hb hzs
  have HR1 := Lib.hid r1
  have HR2 := Lib.hid r2
  have HB := Lib.hid hb
  have HX := Lib.hid hX
  have HT := Lib.hid (hT.next hb)
  have HN := Lib.hid (nth_yes yy m v n h X (HT.out))
  obtain ⟨a0', a1', a2', a3', a4', a5'⟩ := cells6a r0
  obtain ⟨Q, hQ⟩ : ∃ Q, Q = nthD yy m v n := ⟨_, rfl⟩
  have HQ := Lib.hid hQ
  clear r0 r1 r2 hb hX hT e1 e2 h
  go_enter Tryd.func58, Tryd.ntmps58
  go_wp2_with fail
  rw [← HX.out]
  refine HN.out.mono ?_
  rintro e w2 ⟨rfl, hB2⟩
  have z1 := (hB2.block (w.heap.size + 1) (by omega)).trans HR1.out
  have z2 := (hB2.block (w.heap.size + 1 + 1) (by omega)).trans HR2.out
  have hbf := HB.out.trans (hB2.mono (by omega))
  obtain ⟨a0, a1, a2, a3, a4, a5⟩ := cells6a z2
  obtain ⟨f0, f1, f2, _, _, _⟩ := frozen6a z2
  obtain ⟨b0, b1, b2, b3, b4, b5⟩ := cells6a z1
  obtain ⟨g0, g1, g2, g3, g4, g5⟩ := frozen6a z1
  have HF := Lib.hid (set6a (Z := ((w2.setCell ⟨w.heap.size + 1 + 1, 0, none⟩ (.int .i64 (yy))).setCell ⟨w.heap.size + 1 + 1, 1, none⟩ (.int .i64 (m))).setCell ⟨w.heap.size + 1 + 1, 2, none⟩ (.int .i64 (nthD yy m v n))) ((set3_other (by omega) (yy) (m) (nthD yy m v n)).trans z1) (yy) (m) (nthD yy m v n) 0 0 0)
  have HBF := Lib.hid (set6_below (set3_below hbf (B := w.heap.size + 1 + 1) (by omega) (yy) (m) (nthD yy m v n)) (B := w.heap.size + 1) (by omega) (yy) (m) (nthD yy m v n) 0 0 0)
  clear hB2 z1 z2 hbf
  go_wp2
  refine bodyPost_ret (results_near rfl HF.out) rfl ?_
  exact ⟨rfl, HBF.out⟩
set_option maxRecDepth 100000 in
set_option maxHeartbeats 2000000 in
theorem near_3no (yy y m d v n : Int) (h : ¬ NthIs yy m v n) (w : World) (hT : Tabs w) :
    Calls Tryd.prog 58 #[.agg (hoC 3 y m d v n), .int .i64 yy] w fun e w' => e = .returned (.agg (hoC 0 0 0 0 0 0)) ∧ Below w.heap.size w w' := by
  have e1 : w.heap.size + 1 = (w.alloc (.cells (hoC 3 y m d v n) 50)).heap.size := by rw [World.size_alloc]
  have e2 : w.heap.size + 1 + 1 = ((w.alloc (.cells (hoC 3 y m d v n) 50)).alloc (.cells (hoC 0 0 0 0 0 0) 84)).heap.size := by rw [World.size_alloc, World.size_alloc]
  have r0 : (((w.alloc (.cells (hoC 3 y m d v n) 50)).alloc (.cells (hoC 0 0 0 0 0 0) 84)).alloc (.cells (hoC 0 0 0 0 0 0) 84)).heap[w.heap.size]? = some (.cells (hoC 3 y m d v n) 50) := heap_old (heap_old (heap_alloc_new w _) _) _
  have r1 : (((w.alloc (.cells (hoC 3 y m d v n) 50)).alloc (.cells (hoC 0 0 0 0 0 0) 84)).alloc (.cells (hoC 0 0 0 0 0 0) 84)).heap[w.heap.size + 1]? = some (.cells (hoC 0 0 0 0 0 0) 84) := heap_old (by rw [e1]; exact heap_alloc_new _ _) _
  have r2 : (((w.alloc (.cells (hoC 3 y m d v n) 50)).alloc (.cells (hoC 0 0 0 0 0 0) 84)).alloc (.cells (hoC 0 0 0 0 0 0) 84)).heap[w.heap.size + 1 + 1]? = some (.cells (hoC 0 0 0 0 0 0) 84) := by rw [e2]; exact heap_alloc_new _ _
  have hb : Below w.heap.size w (((w.alloc (.cells (hoC 3 y m d v n) 50)).alloc (.cells (hoC 0 0 0 0 0 0) 84)).alloc (.cells (hoC 0 0 0 0 0 0) 84)) := (((Below.refl _ w).alloc (Nat.le_refl _) _).alloc (by simp) _).alloc (by simp; omega) _
  have hzs : (((w.alloc (.cells (hoC 3 y m d v n) 50)).alloc (.cells (hoC 0 0 0 0 0 0) 84)).alloc (.cells (hoC 0 0 0 0 0 0) 84)).heap.size = w.heap.size + 3 := by simp [World.size_alloc]
  obtain ⟨X, hX⟩ : ∃ X, X = (((w.alloc (.cells (hoC 3 y m d v n) 50)).alloc (.cells (hoC 0 0 0 0 0 0) 84)).alloc (.cells (hoC 0 0 0 0 0 0) 84)) := ⟨_, rfl⟩
  rw [← hX] at r0 r1 r2 hb hzs
  have HR1 := Lib.hid r1
  have HR2 := Lib.hid r2
  have HB := Lib.hid hb
  have HX := Lib.hid hX
  have HT := Lib.hid (hT.next hb)
  have HN := Lib.hid (nth_no yy m v n h X (HT.out))
  obtain ⟨a0', a1', a2', a3', a4', a5'⟩ := cells6a r0
  obtain ⟨Q, hQ⟩ : ∃ Q, Q = nthD yy m v n := ⟨_, rfl⟩
  have HQ := Lib.hid hQ
  clear r0 r1 r2 hb hX hT e1 e2 h
  go_enter Tryd.func58, Tryd.ntmps58
  go_wp2_with fail
  rw [← HX.out]
  refine HN.out.mono ?_
  rintro e w2 ⟨rfl, hB2⟩
  have z1 := (hB2.block (w.heap.size + 1) (by omega)).trans HR1.out
  have z2 := (hB2.block (w.heap.size + 1 + 1) (by omega)).trans HR2.out
  have hbf := HB.out.trans (hB2.mono (by omega))
  obtain ⟨a0, a1, a2, a3, a4, a5⟩ := cells6a z2
  obtain ⟨f0, f1, f2, _, _, _⟩ := frozen6a z2
  obtain ⟨b0, b1, b2, b3, b4, b5⟩ := cells6a z1
  obtain ⟨g0, g1, g2, g3, g4, g5⟩ := frozen6a z1
  have HF := Lib.hid (set6a (Z := ((w2.setCell ⟨w.heap.size + 1 + 1, 0, none⟩ (.int .i64 (0))).setCell ⟨w.heap.size + 1 + 1, 1, none⟩ (.int .i64 (0))).setCell ⟨w.heap.size + 1 + 1, 2, none⟩ (.int .i64 (0))) ((set3_other (by omega) (0) (0) (0)).trans z1) (0) (0) (0) 0 0 0)
  have HBF := Lib.hid (set6_below (set3_below hbf (B := w.heap.size + 1 + 1) (by omega) (0) (0) (0)) (B := w.heap.size + 1) (by omega) (0) (0) (0) 0 0 0)
  clear hB2 z1 z2 hbf
  go_wp2
  refine bodyPost_ret (results_near rfl HF.out) rfl ?_
  exact ⟨rfl, HBF.out⟩
set_option maxRecDepth 100000 in
set_option maxHeartbeats 2000000 in
theorem near_4 (yy y m d v n : Int) (hX0 : 1970 ≤ yy) (hX1 : yy ≤ 9999) (hn : -100 ≤ n ∧ n ≤ 200) (w : World) (hT : Tabs w) :
    Calls Tryd.prog 58 #[.agg (hoC 4 y m d v n), .int .i64 yy] w fun e w' => (∃ Y1 M1 D1 Y2 M2 D2 : Int, yd yy Y1 M1 D1 = pd yy yy n ∧ yd yy Y2 M2 D2 = pd yy (yy + 1) n ∧ e = .returned (.agg (hoC Y1 M1 D1 Y2 M2 D2))) ∧ Below w.heap.size w w' := by
  have e1 : w.heap.size + 1 = (w.alloc (.cells (hoC 4 y m d v n) 50)).heap.size := by rw [World.size_alloc]
  have e2 : w.heap.size + 1 + 1 = ((w.alloc (.cells (hoC 4 y m d v n) 50)).alloc (.cells (hoC 0 0 0 0 0 0) 84)).heap.size := by rw [World.size_alloc, World.size_alloc]
  have r0 : (((w.alloc (.cells (hoC 4 y m d v n) 50)).alloc (.cells (hoC 0 0 0 0 0 0) 84)).alloc (.cells (hoC 0 0 0 0 0 0) 84)).heap[w.heap.size]? = some (.cells (hoC 4 y m d v n) 50) := heap_old (heap_old (heap_alloc_new w _) _) _
  have r1 : (((w.alloc (.cells (hoC 4 y m d v n) 50)).alloc (.cells (hoC 0 0 0 0 0 0) 84)).alloc (.cells (hoC 0 0 0 0 0 0) 84)).heap[w.heap.size + 1]? = some (.cells (hoC 0 0 0 0 0 0) 84) := heap_old (by rw [e1]; exact heap_alloc_new _ _) _
  have r2 : (((w.alloc (.cells (hoC 4 y m d v n) 50)).alloc (.cells (hoC 0 0 0 0 0 0) 84)).alloc (.cells (hoC 0 0 0 0 0 0) 84)).heap[w.heap.size + 1 + 1]? = some (.cells (hoC 0 0 0 0 0 0) 84) := by rw [e2]; exact heap_alloc_new _ _
  have hb : Below w.heap.size w (((w.alloc (.cells (hoC 4 y m d v n) 50)).alloc (.cells (hoC 0 0 0 0 0 0) 84)).alloc (.cells (hoC 0 0 0 0 0 0) 84)) := (((Below.refl _ w).alloc (Nat.le_refl _) _).alloc (by simp) _).alloc (by simp; omega) _
  have hzs : (((w.alloc (.cells (hoC 4 y m d v n) 50)).alloc (.cells (hoC 0 0 0 0 0 0) 84)).alloc (.cells (hoC 0 0 0 0 0 0) 84)).heap.size = w.heap.size + 3 := by simp [World.size_alloc]
  obtain ⟨X, hX⟩ : ∃ X, X = (((w.alloc (.cells (hoC 4 y m d v n) 50)).alloc (.cells (hoC 0 0 0 0 0 0) 84)).alloc (.cells (hoC 0 0 0 0 0 0) 84)) := ⟨_, rfl⟩
  rw [← hX] at r0 r1 r2 hb hzs
  have HR1 := Lib.hid r1
  have HR2 := Lib.hid r2
  have HB := Lib.hid hb
  have HX := Lib.hid hX
  have HT := Lib.hid (hT.next hb)
  have HP1 := Lib.hid (pas_any yy yy n hX0 hX1 hn)
  have HW := Lib.hid (show IntKind.i64.wrap (yy + 1) = yy + 1 from by simp only [IntKind.wrap_i64, wrap64]; omega)
  have HP2 := Lib.hid (pas_any yy (IntKind.i64.wrap (yy + 1)) n hX0 hX1 hn)
  have HR0 := Lib.hid r0
  have HZS := Lib.hid hzs
  have q1 : X.drew.cell? ⟨w.heap.size, 5, none⟩ = some (.int .i64 n) := cell_of_row X _ 5 _ _ _ r0
  have hT1 : Tabs X.drew := HT.out
  obtain ⟨a0', a1', a2', a3', a4', a5'⟩ := cells6a r0
  clear r0 r1 r2 hb hX hT e1 e2 hn hzs
  go_enter Tryd.func58, Tryd.ntmps58
  go_wp2_with fail
  rw [← HX.out]
  go_region_held3 (fun w' => w'.cell? ⟨w.heap.size, 5, none⟩ = some (.int .i64 n))
    (first | (with_reducible exact q1) | (with_reducible exact q2) | (with_reducible exact q3) | (with_reducible exact q4) | go_keep)
    (first
      | (go_at_call 70; ((with_reducible refine (HP1.out _ hT1).mono ?_); rintro e w2' ⟨⟨Y1, M1, D1, hy1, rfl⟩, hB2⟩; have g2 := (hB2.block w.heap.size (by rw [show X.drew.heap.size = w.heap.size + 3 from HZS.out]; omega)).trans HR0.out; have q2 : w2'.cell? ⟨w.heap.size, 5, none⟩ = some (.int .i64 n) := cell_of_row w2' _ 5 _ _ _ g2; have hT2 := hT1.next hB2; have G2 := Lib.hid g2; have HB2 := Lib.hid hB2; have HY1 := Lib.hid hy1; clear g2 hB2 hy1))
      | (go_at_call 70; ((with_reducible refine (HP2.out _ hT2).mono ?_); rintro e w3' ⟨⟨Y2, M2, D2, hy2, rfl⟩, hB3⟩; have hs2 : w.heap.size + 3 ≤ w2'.heap.size := (by have := HB2.out.size; rw [show X.drew.heap.size = w.heap.size + 3 from HZS.out] at this; exact this); have g3 := (hB3.block w.heap.size (by omega)).trans G2.out; have q3 : w3'.cell? ⟨w.heap.size, 5, none⟩ = some (.int .i64 n) := cell_of_row w3' _ 5 _ _ _ g3; have q4 : ((((((w3'.setCell ⟨w.heap.size + 1 + 1, 0, none⟩ (.int .i64 Y1)).setCell ⟨w.heap.size + 1 + 1, 1, none⟩ (.int .i64 M1)).setCell ⟨w.heap.size + 1 + 1, 2, none⟩ (.int .i64 D1)).setCell ⟨w.heap.size + 1 + 1, 3, none⟩ (.int .i64 Y2)).setCell ⟨w.heap.size + 1 + 1, 4, none⟩ (.int .i64 M2)).setCell ⟨w.heap.size + 1 + 1, 5, none⟩ (.int .i64 D2)).cell? ⟨w.heap.size, 5, none⟩ = some (.int .i64 n) := cell_of_row _ _ 5 _ _ _ ((set6_other (by omega) Y1 M1 D1 Y2 M2 D2).trans g3); have z2 := (hB3.block (w.heap.size + 1 + 1) (by omega)).trans ((HB2.out.block (w.heap.size + 1 + 1) (by rw [show X.drew.heap.size = w.heap.size + 3 from HZS.out]; omega)).trans HR2.out); obtain ⟨x0, x1, x2, x3, x4, x5⟩ := cells6a z2; obtain ⟨y0, y1, y2, y3, y4, y5⟩ := frozen6a z2; have z1 := (hB3.block (w.heap.size + 1) (by omega)).trans ((HB2.out.block (w.heap.size + 1) (by rw [show X.drew.heap.size = w.heap.size + 3 from HZS.out]; omega)).trans HR1.out); have Z1 := Lib.hid z1; have Z2 := Lib.hid z2; have HB3 := Lib.hid hB3; have HY2 := Lib.hid hy2; have HS2 := Lib.hid hs2; clear hB3 hy2 g3 z1 z2 hs2)))
  all_goals
    rename_i hHeld
    have hbf := HB.out.drew.trans ((HB2.out.mono (by rw [show X.drew.heap.size = w.heap.size + 3 from HZS.out]; omega)).trans (HB3.out.mono (by have := HS2.out; omega)))
    have hbs := set6_below hbf (B := w.heap.size + 1 + 1) (by omega) Y1 M1 D1 Y2 M2 D2
    have p1 := (set6_other (B := w.heap.size + 1 + 1) (C := w.heap.size + 1) (by omega) Y1 M1 D1 Y2 M2 D2).trans Z1.out
    have p2 := set6a Z2.out Y1 M1 D1 Y2 M2 D2
    clear hHeld q1 q2 q3 q4 x0 x1 x2 x3 x4 x5 y0 y1 y2 y3 y4 y5 Z1 Z2 hbf hT2 hT1 HB2 HB3 HS2
    generalize ((((((w3'.setCell ⟨w.heap.size + 1 + 1, 0, none⟩ (.int .i64 Y1)).setCell ⟨w.heap.size + 1 + 1, 1, none⟩ (.int .i64 M1)).setCell ⟨w.heap.size + 1 + 1, 2, none⟩ (.int .i64 D1)).setCell ⟨w.heap.size + 1 + 1, 3, none⟩ (.int .i64 Y2)).setCell ⟨w.heap.size + 1 + 1, 4, none⟩ (.int .i64 M2)).setCell ⟨w.heap.size + 1 + 1, 5, none⟩ (.int .i64 D2)) = U at p1 p2 hbs ⊢
    obtain ⟨k0, k1, k2, k3, k4, k5⟩ := cells6a p2
    obtain ⟨b0, b1, b2, b3, b4, b5⟩ := cells6a p1
    obtain ⟨g0, g1, g2, g3, g4, g5⟩ := frozen6a p1
    have HF := Lib.hid (set6a p1 Y1 M1 D1 Y2 M2 D2)
    have HBF := Lib.hid (set6_below hbs (B := w.heap.size + 1) (by omega) Y1 M1 D1 Y2 M2 D2)
    clear p1 p2 hbs
    go_wp2
    refine bodyPost_ret (results_near rfl HF.out) rfl ?_
    exact ⟨⟨Y1, M1, D1, Y2, M2, D2, HY1.out, by rw [← HW.out]; exact HY2.out, rfl⟩, HBF.out⟩
theorem near_0 (yy k y m d v n : Int) : True := trivial
theorem yd_zero (X : Int) : yd X 0 0 0 = [] := by unfold yd; rw [if_neg (fun h => may_0 h.1)]
theorem yd_nth {yy m v n : Int} (h0 : 1970 ≤ yy) (h1 : yy ≤ 9999) (h : NthIs yy m v n) : yd yy yy m (nthD yy m v n) = [dayOf yy m (nthD yy m v n)] := by
  obtain ⟨hm1, hw, hn⟩ := h
  have hf := nthF_bounds yy m v
  have hdl := dlen_ge (y := yy) (m := m) hm1.2.2.1 hm1.2.2.2.1
  have : May yy m (nthD yy m v n) := by
    refine ⟨hm1.1, hm1.2.1, hm1.2.2.1, hm1.2.2.2.1, ?_, ?_⟩
    · unfold nthD; split <;> omega
    · rcases hn with hn | ⟨a, b, c⟩
      · unfold nthD; rw [if_pos hn]; omega
      · exact c
  unfold yd
  rw [if_pos ⟨this, rfl⟩]
theorem near_any (h : Ho) (yy : Int) (hh : HoIs h) (h0 : 1970 ≤ yy) (h1 : yy ≤ 9999) (w : World) (hT : Tabs w) :
    Calls Tryd.prog 58 #[hoV h, .int .i64 yy] w fun e w' => (∃ Y1 M1 D1 Y2 M2 D2 : Int, yd yy Y1 M1 D1 ++ yd yy Y2 M2 D2 = hoDays h yy ∧ e = .returned (.agg (hoC Y1 M1 D1 Y2 M2 D2))) ∧ Below w.heap.size w w' := by
  obtain ⟨k, y, m, d, v, n⟩ := h
  rcases hh with ⟨hk, _⟩ | ⟨hk, _⟩ | ⟨hk, _⟩ | ⟨hk, _, _, _, _, hn⟩
  all_goals
    simp only at hk
    subst hk
  · refine (near_1 yy y m d v n w hT).mono ?_
    rintro e w' ⟨rfl, hB⟩
    exact ⟨⟨_, _, _, _, _, _, by rw [yd_zero, List.append_nil]; simp [hoDays], rfl⟩, hB⟩
  · refine (near_2 yy y m d v n w hT).mono ?_
    rintro e w' ⟨rfl, hB⟩
    exact ⟨⟨_, _, _, _, _, _, by rw [yd_zero, List.append_nil]; simp [hoDays], rfl⟩, hB⟩
  · by_cases c : NthIs yy m v n
    · refine (near_3yes yy y m d v n c w hT).mono ?_
      rintro e w' ⟨rfl, hB⟩
      exact ⟨⟨_, _, _, _, _, _, by rw [yd_zero, List.append_nil, yd_nth h0 h1 c]; simp [hoDays, wd, c], rfl⟩, hB⟩
    · refine (near_3no yy y m d v n c w hT).mono ?_
      rintro e w' ⟨rfl, hB⟩
      exact ⟨⟨_, _, _, _, _, _, by rw [yd_zero, List.append_nil]; simp [hoDays, wd, c], rfl⟩, hB⟩
  · refine (near_4 yy y m d v n h0 h1 hn w hT).mono ?_
    rintro e w' ⟨⟨Y1, M1, D1, Y2, M2, D2, e1, e2, rfl⟩, hB⟩
    exact ⟨⟨_, _, _, _, _, _, by rw [e1, e2]; simp [hoDays], rfl⟩, hB⟩
end Go.Proofs.YtgedcfgmfhlkdaaDoor
