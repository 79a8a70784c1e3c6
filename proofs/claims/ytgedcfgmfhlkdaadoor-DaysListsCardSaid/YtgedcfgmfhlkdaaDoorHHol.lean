/- Contracts of stripped, isHoliday and isSeason. -/
import Derived.Test.YtgedcfgmfhlkdaaDoorHLeaf
set_option linter.unusedVariables false
set_option linter.unusedSimpArgs false
namespace Go.Proofs.YtgedcfgmfhlkdaaDoor
open Go.RowKit Go.Shelf
abbrev hoV (h : Ho) : Value := .agg #[.int .i64 h.k, .int .i64 h.y, .int .i64 h.m, .int .i64 h.d, .int .i64 h.w, .int .i64 h.n]
abbrev hoC (k y m d w n : Int) : Array Value := #[.int .i64 k, .int .i64 y, .int .i64 m, .int .i64 d, .int .i64 w, .int .i64 n]
/-- A holiday with no more than the fields that its kind has. -/
def strip (h : Ho) : Ho :=
  if h.k = 2 then ⟨2, h.y, h.m, h.d, 0, 0⟩ else if h.k = 1 then ⟨1, 0, h.m, h.d, 0, 0⟩ else if h.k = 3 then ⟨3, 0, h.m, 0, h.w, h.n⟩ else if h.k = 4 then ⟨4, 0, 0, 0, 0, h.n⟩ else ⟨h.k, 0, 0, 0, 0, 0⟩
theorem results_strip {a b c d e f : Int} {B : Nat} {tmps : Array Value} {w : World} (h2 : tmps.getD 2 undef = .pointer (some ⟨B, 0, none⟩))
    (hb : w.heap[B]? = some (.cells (hoC a b c d e f) 50 (0, 0))) : (results Tryd.f53 tmps).run Tryd.prog w = .ok (.agg (hoC a b c d e f)) w := by
  have c0 : w.cell? ⟨B, 0, none⟩ = some (.int .i64 a) := cell_of_row w B 0 _ _ _ hb
  have c1 : w.cell? ⟨B, 1, none⟩ = some (.int .i64 b) := cell_of_row w B 1 _ _ _ hb
  have c2 : w.cell? ⟨B, 2, none⟩ = some (.int .i64 c) := cell_of_row w B 2 _ _ _ hb
  have c3 : w.cell? ⟨B, 3, none⟩ = some (.int .i64 d) := cell_of_row w B 3 _ _ _ hb
  have c4 : w.cell? ⟨B, 4, none⟩ = some (.int .i64 e) := cell_of_row w B 4 _ _ _ hb
  have c5 : w.cell? ⟨B, 5, none⟩ = some (.int .i64 f) := cell_of_row w B 5 _ _ _ hb
  simp only [Array.getD_eq_getD_getElem?] at h2
  simp [results, Tryd.results53, go_sem, h2, c0, c1, c2, c3, c4, c5]
set_option maxRecDepth 100000 in
set_option maxHeartbeats 2000000 in
theorem stripped_4 (y m d v n : Int) (w : World) :
    Calls Tryd.prog 53 #[.agg (hoC 4 y m d v n)] w fun e w' => e = .returned (.agg (hoC 4 0 0 0 0 n)) ∧ Below w.heap.size w w' := by
  go_enter Tryd.func53, Tryd.ntmps53
  go_wp2
  have e1 : w.heap.size + 1 = (w.alloc (.cells (hoC 4 y m d v n) 50)).heap.size := by rw [World.size_alloc]
  refine bodyPost_ret (results_strip rfl (heap_old (by rw [e1]; exact heap_alloc_new _ _) _)) rfl ?_
  exact ⟨rfl, (((Below.refl _ w).alloc (Nat.le_refl _) _).alloc (by simp) _).alloc (by simp; omega) _⟩
set_option maxRecDepth 100000 in
set_option maxHeartbeats 2000000 in
theorem stripped_0 (k y m d v n : Int) (h1 : k ≠ 1) (h2 : k ≠ 2) (h3 : k ≠ 3) (h4 : k ≠ 4) (w : World) :
    Calls Tryd.prog 53 #[.agg (hoC k y m d v n)] w fun e w' => e = .returned (.agg (hoC k 0 0 0 0 0)) ∧ Below w.heap.size w w' := by
  go_enter Tryd.func53, Tryd.ntmps53
  go_wp2
  have e1 : w.heap.size + 1 = (w.alloc (.cells (hoC k y m d v n) 50)).heap.size := by rw [World.size_alloc]
  refine bodyPost_ret (results_strip rfl (heap_old (by rw [e1]; exact heap_alloc_new _ _) _)) rfl ?_
  exact ⟨rfl, (((Below.refl _ w).alloc (Nat.le_refl _) _).alloc (by simp) _).alloc (by simp; omega) _⟩
theorem set6 {Z : World} {B : Nat} (h : Z.heap[B]? = some (.cells (hoC 0 0 0 0 0 0) 50 (0, 0))) (a b c d e f : Int) :
    ((((((Z.setCell ⟨B, 0, none⟩ (.int .i64 a)).setCell ⟨B, 1, none⟩ (.int .i64 b)).setCell ⟨B, 2, none⟩ (.int .i64 c)).setCell ⟨B, 3, none⟩ (.int .i64 d)).setCell ⟨B, 4, none⟩ (.int .i64 e)).setCell ⟨B, 5, none⟩ (.int .i64 f)).heap[B]? = some (.cells (hoC a b c d e f) 50 (0, 0)) :=
  heap_setCell_same _ B 5 _ _ _ (heap_setCell_same _ B 4 _ _ _ (heap_setCell_same _ B 3 _ _ _ (heap_setCell_same _ B 2 _ _ _ (heap_setCell_same _ B 1 _ _ _ (heap_setCell_same _ B 0 _ _ _ h)))))
theorem set6_below {Z w : World} {B n : Nat} (h : Below n w Z) (hB : n ≤ B) (a b c d e f : Int) :
    Below n w ((((((Z.setCell ⟨B, 0, none⟩ (.int .i64 a)).setCell ⟨B, 1, none⟩ (.int .i64 b)).setCell ⟨B, 2, none⟩ (.int .i64 c)).setCell ⟨B, 3, none⟩ (.int .i64 d)).setCell ⟨B, 4, none⟩ (.int .i64 e)).setCell ⟨B, 5, none⟩ (.int .i64 f)) :=
  (((((h.setCell (p := ⟨B, 0, none⟩) hB _).setCell (p := ⟨B, 1, none⟩) hB _).setCell (p := ⟨B, 2, none⟩) hB _).setCell (p := ⟨B, 3, none⟩) hB _).setCell (p := ⟨B, 4, none⟩) hB _).setCell (p := ⟨B, 5, none⟩) hB _
set_option maxRecDepth 100000 in
set_option maxHeartbeats 2000000 in
theorem stripped_2 (y m d v n : Int) (w : World) :
    Calls Tryd.prog 53 #[.agg (hoC 2 y m d v n)] w fun e w' => e = .returned (.agg (hoC 2 y m d 0 0)) ∧ Below w.heap.size w w' := by
  go_enter Tryd.func53, Tryd.ntmps53
  go_wp2
  have e1 : w.heap.size + 1 = (w.alloc (.cells (hoC 2 y m d v n) 50)).heap.size := by rw [World.size_alloc]
  have e2 : w.heap.size + 1 + 1 = ((w.alloc (.cells (hoC 2 y m d v n) 50)).alloc (.cells (hoC 0 0 0 0 0 0) 50)).heap.size := by rw [World.size_alloc, World.size_alloc]
  have r0 : (((w.alloc (.cells (hoC 2 y m d v n) 50)).alloc (.cells (hoC 0 0 0 0 0 0) 50)).alloc (.cells (hoC 2 y 0 0 0 0) 50)).heap[w.heap.size]? = some (.cells (hoC 2 y m d v n) 50) := heap_old (heap_old (heap_alloc_new w _) _) _
  have r1 : (((w.alloc (.cells (hoC 2 y m d v n) 50)).alloc (.cells (hoC 0 0 0 0 0 0) 50)).alloc (.cells (hoC 2 y 0 0 0 0) 50)).heap[w.heap.size + 1]? = some (.cells (hoC 0 0 0 0 0 0) 50) := heap_old (by rw [e1]; exact heap_alloc_new _ _) _
  have r2 : (((w.alloc (.cells (hoC 2 y m d v n) 50)).alloc (.cells (hoC 0 0 0 0 0 0) 50)).alloc (.cells (hoC 2 y 0 0 0 0) 50)).heap[w.heap.size + 1 + 1]? = some (.cells (hoC 2 y 0 0 0 0) 50) := by rw [e2]; exact heap_alloc_new _ _
  have hb : Below w.heap.size w (((w.alloc (.cells (hoC 2 y m d v n) 50)).alloc (.cells (hoC 0 0 0 0 0 0) 50)).alloc (.cells (hoC 2 y 0 0 0 0) 50)) := (((Below.refl _ w).alloc (Nat.le_refl _) _).alloc (by simp) _).alloc (by simp; omega) _
  generalize (((w.alloc (.cells (hoC 2 y m d v n) 50)).alloc (.cells (hoC 0 0 0 0 0 0) 50)).alloc (.cells (hoC 2 y 0 0 0 0) 50)) = X at r0 r1 r2 hb ⊢
  have a1 : X.cell? ⟨w.heap.size, 2, none⟩ = some (.int .i64 m) := cell_of_row X _ 2 _ _ _ r0
  have a2 : X.cell? ⟨w.heap.size, 3, none⟩ = some (.int .i64 d) := cell_of_row X _ 3 _ _ _ r0
  have g1 : X.cell? ⟨w.heap.size + 1 + 1, 2, none⟩ = some (.int .i64 0) := cell_of_row X _ 2 _ _ _ r2
  have g2 : X.cell? ⟨w.heap.size + 1 + 1, 3, none⟩ = some (.int .i64 0) := cell_of_row X _ 3 _ _ _ r2
  have b1 := frozen_of_row X (w.heap.size + 1 + 1) 2 _ _ r2
  have b2 := frozen_of_row X (w.heap.size + 1 + 1) 3 _ _ r2
  have q2 : ((X.setCell ⟨w.heap.size + 1 + 1, 2, none⟩ (.int .i64 m)).setCell ⟨w.heap.size + 1 + 1, 3, none⟩ (.int .i64 d)).drew.heap[w.heap.size + 1 + 1]? = some (.cells (hoC 2 y m d 0 0) 50) := heap_setCell_same (X.setCell ⟨w.heap.size + 1 + 1, 2, none⟩ (.int .i64 m)) (w.heap.size + 1 + 1) 3 _ _ (.int .i64 d) (heap_setCell_same X (w.heap.size + 1 + 1) 2 _ _ (.int .i64 m) r2)
  have q1 : ((X.setCell ⟨w.heap.size + 1 + 1, 2, none⟩ (.int .i64 m)).setCell ⟨w.heap.size + 1 + 1, 3, none⟩ (.int .i64 d)).drew.heap[w.heap.size + 1]? = some (.cells (hoC 0 0 0 0 0 0) 50) := (heap_setCell_other _ ⟨w.heap.size + 1 + 1, 3, none⟩ (w.heap.size + 1) _ (by simp)).trans ((heap_setCell_other X ⟨w.heap.size + 1 + 1, 2, none⟩ (w.heap.size + 1) _ (by simp)).trans r1)
  have hbq : Below w.heap.size w ((X.setCell ⟨w.heap.size + 1 + 1, 2, none⟩ (.int .i64 m)).setCell ⟨w.heap.size + 1 + 1, 3, none⟩ (.int .i64 d)).drew := ((hb.setCell (p := ⟨w.heap.size + 1 + 1, 2, none⟩) (by simp; omega) _).setCell (p := ⟨w.heap.size + 1 + 1, 3, none⟩) (by simp; omega) _).drew
  have Q2 := Lib.hid q2
  have Q1 := Lib.hid q1
  have HB := Lib.hid hbq
  clear r0 r1 r2 hb e1 e2 q1 q2 hbq
  go_region
  generalize ((X.setCell ⟨w.heap.size + 1 + 1, 2, none⟩ (.int .i64 m)).setCell ⟨w.heap.size + 1 + 1, 3, none⟩ (.int .i64 d)).drew = Z at Q2 Q1 HB ⊢
  clear g1 g2
  have q2 : Z.heap[w.heap.size + 1 + 1]? = some (.cells (hoC 2 y m d 0 0) 50) := Q2.out
  have c0 : Z.cell? ⟨w.heap.size + 1 + 1, 0, none⟩ = some (.int .i64 2) := cell_of_row Z _ 0 _ _ _ q2
  have c1 : Z.cell? ⟨w.heap.size + 1 + 1, 1, none⟩ = some (.int .i64 y) := cell_of_row Z _ 1 _ _ _ q2
  have c2 : Z.cell? ⟨w.heap.size + 1 + 1, 2, none⟩ = some (.int .i64 m) := cell_of_row Z _ 2 _ _ _ q2
  have c3 : Z.cell? ⟨w.heap.size + 1 + 1, 3, none⟩ = some (.int .i64 d) := cell_of_row Z _ 3 _ _ _ q2
  have c4 : Z.cell? ⟨w.heap.size + 1 + 1, 4, none⟩ = some (.int .i64 0) := cell_of_row Z _ 4 _ _ _ q2
  have c5 : Z.cell? ⟨w.heap.size + 1 + 1, 5, none⟩ = some (.int .i64 0) := cell_of_row Z _ 5 _ _ _ q2
  have g0 : Z.cell? ⟨w.heap.size + 1, 0, none⟩ = some (.int .i64 0) := cell_of_row Z _ 0 _ _ _ Q1.out
  have g1 : Z.cell? ⟨w.heap.size + 1, 1, none⟩ = some (.int .i64 0) := cell_of_row Z _ 1 _ _ _ Q1.out
  have g2 : Z.cell? ⟨w.heap.size + 1, 2, none⟩ = some (.int .i64 0) := cell_of_row Z _ 2 _ _ _ Q1.out
  have g3 : Z.cell? ⟨w.heap.size + 1, 3, none⟩ = some (.int .i64 0) := cell_of_row Z _ 3 _ _ _ Q1.out
  have g4 : Z.cell? ⟨w.heap.size + 1, 4, none⟩ = some (.int .i64 0) := cell_of_row Z _ 4 _ _ _ Q1.out
  have g5 : Z.cell? ⟨w.heap.size + 1, 5, none⟩ = some (.int .i64 0) := cell_of_row Z _ 5 _ _ _ Q1.out
  have f0 := frozen_of_row Z (w.heap.size + 1) 0 _ _ Q1.out
  have f1 := frozen_of_row Z (w.heap.size + 1) 1 _ _ Q1.out
  have f2 := frozen_of_row Z (w.heap.size + 1) 2 _ _ Q1.out
  have f3 := frozen_of_row Z (w.heap.size + 1) 3 _ _ Q1.out
  have f4 := frozen_of_row Z (w.heap.size + 1) 4 _ _ Q1.out
  have f5 := frozen_of_row Z (w.heap.size + 1) 5 _ _ Q1.out
  clear a1 a2 b1 b2 q2 Q2
  go_wp2
  refine bodyPost_ret (results_strip rfl (set6 Q1.out 2 y m d 0 0)) rfl ?_
  exact ⟨rfl, set6_below HB.out (by omega) 2 y m d 0 0⟩
set_option maxRecDepth 100000 in
set_option maxHeartbeats 2000000 in
theorem stripped_1 (y m d v n : Int) (w : World) :
    Calls Tryd.prog 53 #[.agg (hoC 1 y m d v n)] w fun e w' => e = .returned (.agg (hoC 1 0 m d 0 0)) ∧ Below w.heap.size w w' := by
  go_enter Tryd.func53, Tryd.ntmps53
  go_wp2
  have e1 : w.heap.size + 1 = (w.alloc (.cells (hoC 1 y m d v n) 50)).heap.size := by rw [World.size_alloc]
  have e2 : w.heap.size + 1 + 1 = ((w.alloc (.cells (hoC 1 y m d v n) 50)).alloc (.cells (hoC 0 0 0 0 0 0) 50)).heap.size := by rw [World.size_alloc, World.size_alloc]
  have r0 : (((w.alloc (.cells (hoC 1 y m d v n) 50)).alloc (.cells (hoC 0 0 0 0 0 0) 50)).alloc (.cells (hoC 1 0 0 0 0 0) 50)).heap[w.heap.size]? = some (.cells (hoC 1 y m d v n) 50) := heap_old (heap_old (heap_alloc_new w _) _) _
  have r1 : (((w.alloc (.cells (hoC 1 y m d v n) 50)).alloc (.cells (hoC 0 0 0 0 0 0) 50)).alloc (.cells (hoC 1 0 0 0 0 0) 50)).heap[w.heap.size + 1]? = some (.cells (hoC 0 0 0 0 0 0) 50) := heap_old (by rw [e1]; exact heap_alloc_new _ _) _
  have r2 : (((w.alloc (.cells (hoC 1 y m d v n) 50)).alloc (.cells (hoC 0 0 0 0 0 0) 50)).alloc (.cells (hoC 1 0 0 0 0 0) 50)).heap[w.heap.size + 1 + 1]? = some (.cells (hoC 1 0 0 0 0 0) 50) := by rw [e2]; exact heap_alloc_new _ _
  have hb : Below w.heap.size w (((w.alloc (.cells (hoC 1 y m d v n) 50)).alloc (.cells (hoC 0 0 0 0 0 0) 50)).alloc (.cells (hoC 1 0 0 0 0 0) 50)) := (((Below.refl _ w).alloc (Nat.le_refl _) _).alloc (by simp) _).alloc (by simp; omega) _
  generalize (((w.alloc (.cells (hoC 1 y m d v n) 50)).alloc (.cells (hoC 0 0 0 0 0 0) 50)).alloc (.cells (hoC 1 0 0 0 0 0) 50)) = X at r0 r1 r2 hb ⊢
  have a1 : X.cell? ⟨w.heap.size, 2, none⟩ = some (.int .i64 m) := cell_of_row X _ 2 _ _ _ r0
  have a2 : X.cell? ⟨w.heap.size, 3, none⟩ = some (.int .i64 d) := cell_of_row X _ 3 _ _ _ r0
  have g1 : X.cell? ⟨w.heap.size + 1 + 1, 2, none⟩ = some (.int .i64 0) := cell_of_row X _ 2 _ _ _ r2
  have g2 : X.cell? ⟨w.heap.size + 1 + 1, 3, none⟩ = some (.int .i64 0) := cell_of_row X _ 3 _ _ _ r2
  have b1 := frozen_of_row X (w.heap.size + 1 + 1) 2 _ _ r2
  have b2 := frozen_of_row X (w.heap.size + 1 + 1) 3 _ _ r2
  have q2 : ((X.setCell ⟨w.heap.size + 1 + 1, 2, none⟩ (.int .i64 m)).setCell ⟨w.heap.size + 1 + 1, 3, none⟩ (.int .i64 d)).drew.heap[w.heap.size + 1 + 1]? = some (.cells (hoC 1 0 m d 0 0) 50) := heap_setCell_same (X.setCell ⟨w.heap.size + 1 + 1, 2, none⟩ (.int .i64 m)) (w.heap.size + 1 + 1) 3 _ _ (.int .i64 d) (heap_setCell_same X (w.heap.size + 1 + 1) 2 _ _ (.int .i64 m) r2)
  have q1 : ((X.setCell ⟨w.heap.size + 1 + 1, 2, none⟩ (.int .i64 m)).setCell ⟨w.heap.size + 1 + 1, 3, none⟩ (.int .i64 d)).drew.heap[w.heap.size + 1]? = some (.cells (hoC 0 0 0 0 0 0) 50) := (heap_setCell_other _ ⟨w.heap.size + 1 + 1, 3, none⟩ (w.heap.size + 1) _ (by simp)).trans ((heap_setCell_other X ⟨w.heap.size + 1 + 1, 2, none⟩ (w.heap.size + 1) _ (by simp)).trans r1)
  have hbq : Below w.heap.size w ((X.setCell ⟨w.heap.size + 1 + 1, 2, none⟩ (.int .i64 m)).setCell ⟨w.heap.size + 1 + 1, 3, none⟩ (.int .i64 d)).drew := ((hb.setCell (p := ⟨w.heap.size + 1 + 1, 2, none⟩) (by simp; omega) _).setCell (p := ⟨w.heap.size + 1 + 1, 3, none⟩) (by simp; omega) _).drew
  have Q2 := Lib.hid q2
  have Q1 := Lib.hid q1
  have HB := Lib.hid hbq
  clear r0 r1 r2 hb e1 e2 q1 q2 hbq
  go_region
  generalize ((X.setCell ⟨w.heap.size + 1 + 1, 2, none⟩ (.int .i64 m)).setCell ⟨w.heap.size + 1 + 1, 3, none⟩ (.int .i64 d)).drew = Z at Q2 Q1 HB ⊢
  clear g1 g2
  have q2 : Z.heap[w.heap.size + 1 + 1]? = some (.cells (hoC 1 0 m d 0 0) 50) := Q2.out
  have c0 : Z.cell? ⟨w.heap.size + 1 + 1, 0, none⟩ = some (.int .i64 1) := cell_of_row Z _ 0 _ _ _ q2
  have c1 : Z.cell? ⟨w.heap.size + 1 + 1, 1, none⟩ = some (.int .i64 0) := cell_of_row Z _ 1 _ _ _ q2
  have c2 : Z.cell? ⟨w.heap.size + 1 + 1, 2, none⟩ = some (.int .i64 m) := cell_of_row Z _ 2 _ _ _ q2
  have c3 : Z.cell? ⟨w.heap.size + 1 + 1, 3, none⟩ = some (.int .i64 d) := cell_of_row Z _ 3 _ _ _ q2
  have c4 : Z.cell? ⟨w.heap.size + 1 + 1, 4, none⟩ = some (.int .i64 0) := cell_of_row Z _ 4 _ _ _ q2
  have c5 : Z.cell? ⟨w.heap.size + 1 + 1, 5, none⟩ = some (.int .i64 0) := cell_of_row Z _ 5 _ _ _ q2
  have g0 : Z.cell? ⟨w.heap.size + 1, 0, none⟩ = some (.int .i64 0) := cell_of_row Z _ 0 _ _ _ Q1.out
  have g1 : Z.cell? ⟨w.heap.size + 1, 1, none⟩ = some (.int .i64 0) := cell_of_row Z _ 1 _ _ _ Q1.out
  have g2 : Z.cell? ⟨w.heap.size + 1, 2, none⟩ = some (.int .i64 0) := cell_of_row Z _ 2 _ _ _ Q1.out
  have g3 : Z.cell? ⟨w.heap.size + 1, 3, none⟩ = some (.int .i64 0) := cell_of_row Z _ 3 _ _ _ Q1.out
  have g4 : Z.cell? ⟨w.heap.size + 1, 4, none⟩ = some (.int .i64 0) := cell_of_row Z _ 4 _ _ _ Q1.out
  have g5 : Z.cell? ⟨w.heap.size + 1, 5, none⟩ = some (.int .i64 0) := cell_of_row Z _ 5 _ _ _ Q1.out
  have f0 := frozen_of_row Z (w.heap.size + 1) 0 _ _ Q1.out
  have f1 := frozen_of_row Z (w.heap.size + 1) 1 _ _ Q1.out
  have f2 := frozen_of_row Z (w.heap.size + 1) 2 _ _ Q1.out
  have f3 := frozen_of_row Z (w.heap.size + 1) 3 _ _ Q1.out
  have f4 := frozen_of_row Z (w.heap.size + 1) 4 _ _ Q1.out
  have f5 := frozen_of_row Z (w.heap.size + 1) 5 _ _ Q1.out
  clear a1 a2 b1 b2 q2 Q2
  go_wp2
  refine bodyPost_ret (results_strip rfl (set6 Q1.out 1 0 m d 0 0)) rfl ?_
  exact ⟨rfl, set6_below HB.out (by omega) 1 0 m d 0 0⟩
set_option maxRecDepth 100000 in
set_option maxHeartbeats 2000000 in
theorem stripped_3 (y m d v n : Int) (w : World) :
    Calls Tryd.prog 53 #[.agg (hoC 3 y m d v n)] w fun e w' => e = .returned (.agg (hoC 3 0 m 0 v n)) ∧ Below w.heap.size w w' := by
  go_enter Tryd.func53, Tryd.ntmps53
  go_wp2
  have e1 : w.heap.size + 1 = (w.alloc (.cells (hoC 3 y m d v n) 50)).heap.size := by rw [World.size_alloc]
  have e2 : w.heap.size + 1 + 1 = ((w.alloc (.cells (hoC 3 y m d v n) 50)).alloc (.cells (hoC 0 0 0 0 0 0) 50)).heap.size := by rw [World.size_alloc, World.size_alloc]
  have r0 : (((w.alloc (.cells (hoC 3 y m d v n) 50)).alloc (.cells (hoC 0 0 0 0 0 0) 50)).alloc (.cells (hoC 3 0 0 0 0 0) 50)).heap[w.heap.size]? = some (.cells (hoC 3 y m d v n) 50) := heap_old (heap_old (heap_alloc_new w _) _) _
  have r1 : (((w.alloc (.cells (hoC 3 y m d v n) 50)).alloc (.cells (hoC 0 0 0 0 0 0) 50)).alloc (.cells (hoC 3 0 0 0 0 0) 50)).heap[w.heap.size + 1]? = some (.cells (hoC 0 0 0 0 0 0) 50) := heap_old (by rw [e1]; exact heap_alloc_new _ _) _
  have r2 : (((w.alloc (.cells (hoC 3 y m d v n) 50)).alloc (.cells (hoC 0 0 0 0 0 0) 50)).alloc (.cells (hoC 3 0 0 0 0 0) 50)).heap[w.heap.size + 1 + 1]? = some (.cells (hoC 3 0 0 0 0 0) 50) := by rw [e2]; exact heap_alloc_new _ _
  have hb : Below w.heap.size w (((w.alloc (.cells (hoC 3 y m d v n) 50)).alloc (.cells (hoC 0 0 0 0 0 0) 50)).alloc (.cells (hoC 3 0 0 0 0 0) 50)) := (((Below.refl _ w).alloc (Nat.le_refl _) _).alloc (by simp) _).alloc (by simp; omega) _
  generalize (((w.alloc (.cells (hoC 3 y m d v n) 50)).alloc (.cells (hoC 0 0 0 0 0 0) 50)).alloc (.cells (hoC 3 0 0 0 0 0) 50)) = X at r0 r1 r2 hb ⊢
  have a1 : X.cell? ⟨w.heap.size, 2, none⟩ = some (.int .i64 m) := cell_of_row X _ 2 _ _ _ r0
  have a2 : X.cell? ⟨w.heap.size, 4, none⟩ = some (.int .i64 v) := cell_of_row X _ 4 _ _ _ r0
  have g1 : X.cell? ⟨w.heap.size + 1 + 1, 2, none⟩ = some (.int .i64 0) := cell_of_row X _ 2 _ _ _ r2
  have g2 : X.cell? ⟨w.heap.size + 1 + 1, 4, none⟩ = some (.int .i64 0) := cell_of_row X _ 4 _ _ _ r2
  have b1 := frozen_of_row X (w.heap.size + 1 + 1) 2 _ _ r2
  have b2 := frozen_of_row X (w.heap.size + 1 + 1) 4 _ _ r2
  have q2 : ((X.setCell ⟨w.heap.size + 1 + 1, 2, none⟩ (.int .i64 m)).setCell ⟨w.heap.size + 1 + 1, 4, none⟩ (.int .i64 v)).drew.heap[w.heap.size + 1 + 1]? = some (.cells (hoC 3 0 m 0 v 0) 50) := heap_setCell_same (X.setCell ⟨w.heap.size + 1 + 1, 2, none⟩ (.int .i64 m)) (w.heap.size + 1 + 1) 4 _ _ (.int .i64 v) (heap_setCell_same X (w.heap.size + 1 + 1) 2 _ _ (.int .i64 m) r2)
  have q1 : ((X.setCell ⟨w.heap.size + 1 + 1, 2, none⟩ (.int .i64 m)).setCell ⟨w.heap.size + 1 + 1, 4, none⟩ (.int .i64 v)).drew.heap[w.heap.size + 1]? = some (.cells (hoC 0 0 0 0 0 0) 50) := (heap_setCell_other _ ⟨w.heap.size + 1 + 1, 4, none⟩ (w.heap.size + 1) _ (by simp)).trans ((heap_setCell_other X ⟨w.heap.size + 1 + 1, 2, none⟩ (w.heap.size + 1) _ (by simp)).trans r1)
  have hbq : Below w.heap.size w ((X.setCell ⟨w.heap.size + 1 + 1, 2, none⟩ (.int .i64 m)).setCell ⟨w.heap.size + 1 + 1, 4, none⟩ (.int .i64 v)).drew := ((hb.setCell (p := ⟨w.heap.size + 1 + 1, 2, none⟩) (by simp; omega) _).setCell (p := ⟨w.heap.size + 1 + 1, 4, none⟩) (by simp; omega) _).drew
  have x5 : ((X.setCell ⟨w.heap.size + 1 + 1, 2, none⟩ (.int .i64 m)).setCell ⟨w.heap.size + 1 + 1, 4, none⟩ (.int .i64 v)).drew.cell? ⟨w.heap.size, 5, none⟩ = some (.int .i64 n) := cell_of_row _ w.heap.size 5 _ _ _ ((heap_setCell_other _ ⟨w.heap.size + 1 + 1, 4, none⟩ w.heap.size _ (by simp; omega)).trans ((heap_setCell_other X ⟨w.heap.size + 1 + 1, 2, none⟩ w.heap.size _ (by simp; omega)).trans r0))
  have Q2 := Lib.hid q2
  have Q1 := Lib.hid q1
  have HB := Lib.hid hbq
  clear r0 r1 r2 hb e1 e2 q1 q2 hbq
  go_region
  generalize ((X.setCell ⟨w.heap.size + 1 + 1, 2, none⟩ (.int .i64 m)).setCell ⟨w.heap.size + 1 + 1, 4, none⟩ (.int .i64 v)).drew = Z at Q2 Q1 HB x5 ⊢
  clear g1 g2
  have q2 : Z.heap[w.heap.size + 1 + 1]? = some (.cells (hoC 3 0 m 0 v 0) 50) := Q2.out
  have c0 : Z.cell? ⟨w.heap.size + 1 + 1, 0, none⟩ = some (.int .i64 3) := cell_of_row Z _ 0 _ _ _ q2
  have c1 : Z.cell? ⟨w.heap.size + 1 + 1, 1, none⟩ = some (.int .i64 0) := cell_of_row Z _ 1 _ _ _ q2
  have c2 : Z.cell? ⟨w.heap.size + 1 + 1, 2, none⟩ = some (.int .i64 m) := cell_of_row Z _ 2 _ _ _ q2
  have c3 : Z.cell? ⟨w.heap.size + 1 + 1, 3, none⟩ = some (.int .i64 0) := cell_of_row Z _ 3 _ _ _ q2
  have c4 : Z.cell? ⟨w.heap.size + 1 + 1, 4, none⟩ = some (.int .i64 v) := cell_of_row Z _ 4 _ _ _ q2
  have c5 : Z.cell? ⟨w.heap.size + 1 + 1, 5, none⟩ = some (.int .i64 0) := cell_of_row Z _ 5 _ _ _ q2
  have g0 : Z.cell? ⟨w.heap.size + 1, 0, none⟩ = some (.int .i64 0) := cell_of_row Z _ 0 _ _ _ Q1.out
  have g1 : Z.cell? ⟨w.heap.size + 1, 1, none⟩ = some (.int .i64 0) := cell_of_row Z _ 1 _ _ _ Q1.out
  have g2 : Z.cell? ⟨w.heap.size + 1, 2, none⟩ = some (.int .i64 0) := cell_of_row Z _ 2 _ _ _ Q1.out
  have g3 : Z.cell? ⟨w.heap.size + 1, 3, none⟩ = some (.int .i64 0) := cell_of_row Z _ 3 _ _ _ Q1.out
  have g4 : Z.cell? ⟨w.heap.size + 1, 4, none⟩ = some (.int .i64 0) := cell_of_row Z _ 4 _ _ _ Q1.out
  have g5 : Z.cell? ⟨w.heap.size + 1, 5, none⟩ = some (.int .i64 0) := cell_of_row Z _ 5 _ _ _ Q1.out
  have y5 := frozen_of_row Z (w.heap.size + 1 + 1) 5 _ _ q2
  have f0 := frozen_of_row Z (w.heap.size + 1) 0 _ _ Q1.out
  have f1 := frozen_of_row Z (w.heap.size + 1) 1 _ _ Q1.out
  have f2 := frozen_of_row Z (w.heap.size + 1) 2 _ _ Q1.out
  have f3 := frozen_of_row Z (w.heap.size + 1) 3 _ _ Q1.out
  have f4 := frozen_of_row Z (w.heap.size + 1) 4 _ _ Q1.out
  have f5 := frozen_of_row Z (w.heap.size + 1) 5 _ _ Q1.out
  clear a1 a2 b1 b2 q2 Q2
  go_wp2
  have q1 : (Z.setCell ⟨w.heap.size + 1 + 1, 5, none⟩ (.int .i64 n)).heap[w.heap.size + 1]? = some (.cells (hoC 0 0 0 0 0 0) 50) := (heap_setCell_other Z ⟨w.heap.size + 1 + 1, 5, none⟩ (w.heap.size + 1) _ (by simp)).trans Q1.out
  refine bodyPost_ret (results_strip rfl (set6 q1 3 0 m 0 v n)) rfl ?_
  exact ⟨rfl, set6_below (HB.out.setCell (p := ⟨w.heap.size + 1 + 1, 5, none⟩) (by simp; omega) _) (by omega) 3 0 m 0 v n⟩
theorem stripped_any (h : Ho) (w : World) :
    Calls Tryd.prog 53 #[hoV h] w fun e w' => e = .returned (hoV (strip h)) ∧ Below w.heap.size w w' := by
  obtain ⟨k, y, m, d, v, n⟩ := h
  unfold strip
  by_cases h2 : k = 2
  · subst h2; exact stripped_2 y m d v n w
  · by_cases h1 : k = 1
    · subst h1; exact stripped_1 y m d v n w
    · by_cases h3 : k = 3
      · subst h3; exact stripped_3 y m d v n w
      · by_cases h4 : k = 4
        · subst h4; exact stripped_4 y m d v n w
        · simp only [h1, h2, h3, h4, if_false]
          exact stripped_0 k y m d v n h1 h2 h3 h4 w
end Go.Proofs.YtgedcfgmfhlkdaaDoor
