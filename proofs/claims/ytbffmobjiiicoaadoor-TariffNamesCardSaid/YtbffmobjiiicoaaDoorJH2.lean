/- Joined: HPas HNear HSea HMap HIter HHeld. -/
import Derived.Test.YtbffmobjiiicoaaDoorJH1
import Derived.Maps.Views
import Derived.Maps.RangeWalk
import Derived.Maps.OwnOps
import Derived.Maps.OwnSet
import Derived.StillTailTactics
section
/- The contract of paschalOf. -/
set_option linter.unusedVariables false
set_option linter.unusedSimpArgs false
namespace Go.Proofs.YtbffmobjiiicoaaDoor.H8
open Go.RowKit Go.Shelf
abbrev dtC (y m d : Int) : Array Value := #[.int .i64 y, .int .i64 m, .int .i64 d]
theorem results_pas {y m d : Int} {b : Nat} {tmps : Array Value} {w : World} (h2 : tmps.getD 4 undef = .pointer (some ⟨b, 0, none⟩))
    (hb : w.heap[b]? = some (.cells #[.int .i64 y, .int .i64 m, .int .i64 d] 110 (0, 0))) : (results Tryd.f96 tmps).run Tryd.prog w = .ok (dateV y m d) w := by
  have c0 : w.cell? ⟨b, 0, none⟩ = some (.int .i64 y) := cell_of_row w b 0 _ _ _ hb
  have c1 : w.cell? ⟨b, 1, none⟩ = some (.int .i64 m) := cell_of_row w b 1 _ _ _ hb
  have c2 : w.cell? ⟨b, 2, none⟩ = some (.int .i64 d) := cell_of_row w b 2 _ _ _ hb
  simp only [Array.getD_eq_getD_getElem?] at h2
  simp [results, Tryd.results96, go_sem, h2, c0, c1, c2, dateV]
theorem set3 {Z : World} {B : Nat} {x y z : Value} (h : Z.heap[B]? = some (.cells #[x, y, z] 110 (0, 0))) (a b c : Int) :
    (((Z.setCell ⟨B, 0, none⟩ (.int .i64 a)).setCell ⟨B, 1, none⟩ (.int .i64 b)).setCell ⟨B, 2, none⟩ (.int .i64 c)).heap[B]? = some (.cells #[.int .i64 a, .int .i64 b, .int .i64 c] 110 (0, 0)) :=
  heap_setCell_same _ B 2 _ _ _ (heap_setCell_same _ B 1 _ _ _ (heap_setCell_same _ B 0 _ _ _ h))
theorem set3_below {Z w : World} {B n : Nat} (h : Below n w Z) (hB : n ≤ B) (a b c : Int) :
    Below n w (((Z.setCell ⟨B, 0, none⟩ (.int .i64 a)).setCell ⟨B, 1, none⟩ (.int .i64 b)).setCell ⟨B, 2, none⟩ (.int .i64 c)) :=
  ((h.setCell (p := ⟨B, 0, none⟩) hB _).setCell (p := ⟨B, 1, none⟩) hB _).setCell (p := ⟨B, 2, none⟩) hB _
theorem hcells3 {W : World} {B : Nat} {x y z : Value} {T : TypeId} {fr : Nat × Nat} (h : W.heap[B]? = some (.cells #[x, y, z] T fr)) :
    W.cell? ⟨B, 0, none⟩ = some x ∧ W.cell? ⟨B, 1, none⟩ = some y ∧ W.cell? ⟨B, 2, none⟩ = some z :=
  ⟨cell_of_row W B 0 _ _ _ h, cell_of_row W B 1 _ _ _ h, cell_of_row W B 2 _ _ _ h⟩
theorem frozen3 {W : World} {B : Nat} {x y z : Value} {T : TypeId} (h : W.heap[B]? = some (.cells #[x, y, z] T (0, 0))) :
    W.frozen? ⟨B, 0, none⟩ = false ∧ W.frozen? ⟨B, 1, none⟩ = false ∧ W.frozen? ⟨B, 2, none⟩ = false :=
  ⟨frozen_of_row W B 0 _ _ h, frozen_of_row W B 1 _ _ h, frozen_of_row W B 2 _ _ h⟩
set_option maxRecDepth 100000 in
set_option maxHeartbeats 2000000 in
theorem pas_no (y n : Int) (h : ¬ (1970 ≤ y ∧ y ≤ 9999)) (w : World) :
    Calls Tryd.prog 96 #[.int .i64 y, .int .i64 n] w fun e w' => e = .returned (dateV 0 0 0) ∧ Below w.heap.size w w' := by
  have hz := heap_alloc_new w (.cells #[.int .i64 0, .int .i64 0, .int .i64 0] 110)
  have HB0 := Lib.hid ((Below.refl _ w).alloc (Nat.le_refl _) (.cells #[.int .i64 0, .int .i64 0, .int .i64 0] 110))
  have HZ := Lib.hid hz
  clear hz
  go_enter Tryd.func96, Tryd.ntmps96
  go_wp2_with fail
  refine (easter_no y h _).mono ?_
  rintro e w1 ⟨rfl, hB1⟩
  have hz1 := (hB1.block w.heap.size (by simp)).trans HZ.out
  obtain ⟨a0, a1, a2⟩ := hcells3 (heap_old hz1 (.cells #[.int .i64 0, .int .i64 0, .int .i64 0] 110))
  obtain ⟨f0, f1, f2⟩ := frozen3 (heap_old hz1 (.cells #[.int .i64 0, .int .i64 0, .int .i64 0] 110))
  have HF := Lib.hid (heap_old hz1 (.cells #[.int .i64 0, .int .i64 0, .int .i64 0] 110))
  have HB1 := Lib.hid ((HB0.out.trans (hB1.mono HB0.out.size)).alloc (HB0.out.trans (hB1.mono HB0.out.size)).size (.cells #[.int .i64 0, .int .i64 0, .int .i64 0] 110))
  clear hB1 hz1 h
  go_wp2
  refine bodyPost_ret (results_pas rfl (set3 HF.out 0 0 0)) rfl ?_
  exact ⟨rfl, set3_below HB1.out (Nat.le_refl _) 0 0 0⟩
set_option maxRecDepth 100000 in
set_option maxHeartbeats 2000000 in
theorem pas_in (y n : Int) (h0 : 1970 ≤ y) (h1 : y ≤ 9999) (hn : -100 ≤ n ∧ n ≤ 200) (Y M D : Int) (hd : IsDate (eaDay y + n) Y M D) (w : World) (hT : Tabs w) :
    Calls Tryd.prog 96 #[.int .i64 y, .int .i64 n] w fun e w' => e = .returned (dateV Y M D) ∧ Below w.heap.size w w' := by
  have hz := heap_alloc_new w (.cells #[.int .i64 0, .int .i64 0, .int .i64 0] 110)
  have HB0 := Lib.hid ((Below.refl _ w).alloc (Nat.le_refl _) (.cells #[.int .i64 0, .int .i64 0, .int .i64 0] 110))
  have HZ := Lib.hid hz
  have HT := Lib.hid hT
  have hm := ea_may h0 h1
  have hdb := day_bounds hm
  have HE := Lib.hid (easter_yes y h0 h1)
  have hda : IsDate (eaDay y) y (eaM y) (eaD y) := ⟨hm, rfl⟩
  obtain ⟨N, hN⟩ : ∃ N, N = eaDay y := ⟨_, rfl⟩
  obtain ⟨em, hem⟩ : ∃ N, N = eaM y := ⟨_, rfl⟩
  obtain ⟨ed, hed⟩ : ∃ N, N = eaD y := ⟨_, rfl⟩
  have hdb2 : 0 ≤ N ∧ N ≤ 2932896 := by rw [hN]; exact hdb
  rw [← hN, ← hem, ← hed] at hda
  rw [← hem, ← hed] at HE
  rw [← hN] at hd
  have HDA := Lib.hid hda
  have HD := Lib.hid hd
  clear hz hT hm hdb hda hN hem hed hd h0 h1
  obtain ⟨hn1, hn2⟩ := hn
  obtain ⟨hN1, hN2⟩ := hdb2
  go_enter Tryd.func96, Tryd.ntmps96
  go_wp2_with fail
  refine (HE.out _).mono ?_
  rintro e w1 ⟨rfl, hB1⟩
  have hz1 := (hB1.block w.heap.size (by simp)).trans HZ.out
  have hB1a := (HB0.out.trans (hB1.mono HB0.out.size)).alloc (HB0.out.trans (hB1.mono HB0.out.size)).size (.cells #[.int .i64 y, .int .i64 em, .int .i64 ed] 110)
  have HZ1 := Lib.hid (heap_old hz1 (.cells #[.int .i64 y, .int .i64 em, .int .i64 ed] 110))
  have HDAY := Lib.hid (day_is _ _ _ _ HDA.out _ (HT.out.next hB1a))
  have hwl : w.heap.size < w1.heap.size := by have := hB1.size; rw [World.size_alloc] at this; omega
  have HB1 := Lib.hid hB1a
  clear hB1 hz1 hB1a HB0 HZ
  go_wp2_with fail
  refine HDAY.out.mono ?_
  rintro e w2 ⟨rfl, hB2⟩
  have hz2 := (hB2.block w.heap.size (by rw [World.size_alloc]; omega)).trans HZ1.out
  have hB2a := HB1.out.trans (hB2.mono HB1.out.size)
  have HOF := Lib.hid (of_is (N + n) Y M D HD.out w2 (HT.out.next hB2a))
  have HZ2 := Lib.hid hz2
  have HB2 := Lib.hid hB2a
  have hwl2 : w.heap.size < w2.heap.size := by have := hB2.size; rw [World.size_alloc] at this; omega
  clear hB2 hz2 hB2a HB1 HZ1 HDAY hwl
  go_wp2_with fail
  refine HOF.out.mono ?_
  rintro e w3 ⟨rfl, hB3⟩
  have hz3 := heap_old ((hB3.block w.heap.size hwl2).trans HZ2.out) (.cells #[.int .i64 Y, .int .i64 M, .int .i64 D] 110)
  have hB3a := HB2.out.trans (hB3.mono HB2.out.size)
  obtain ⟨a0, a1, a2⟩ := hcells3 hz3
  obtain ⟨f0, f1, f2⟩ := frozen3 hz3
  have HF := Lib.hid hz3
  have HBF := Lib.hid (hB3a.alloc hB3a.size (.cells #[.int .i64 Y, .int .i64 M, .int .i64 D] 110))
  clear hB3 hz3 hB3a HB2 HZ2 HOF
  go_wp2
  refine bodyPost_ret (results_pas rfl (set3 HF.out Y M D)) rfl ?_
  exact ⟨rfl, set3_below HBF.out (Nat.le_refl _) Y M D⟩
set_option maxRecDepth 100000 in
set_option maxHeartbeats 2000000 in
theorem pas_out (y n : Int) (h0 : 1970 ≤ y) (h1 : y ≤ 9999) (hn : -100 ≤ n ∧ n ≤ 200) (hd : ¬ (0 ≤ eaDay y + n ∧ eaDay y + n ≤ 2932896)) (w : World) (hT : Tabs w) :
    Calls Tryd.prog 96 #[.int .i64 y, .int .i64 n] w fun e w' => e = .returned (dateV 0 0 0) ∧ Below w.heap.size w w' := by
  have hz := heap_alloc_new w (.cells #[.int .i64 0, .int .i64 0, .int .i64 0] 110)
  have HB0 := Lib.hid ((Below.refl _ w).alloc (Nat.le_refl _) (.cells #[.int .i64 0, .int .i64 0, .int .i64 0] 110))
  have HZ := Lib.hid hz
  have HT := Lib.hid hT
  have hm := ea_may h0 h1
  have hdb := day_bounds hm
  have HE := Lib.hid (easter_yes y h0 h1)
  have hda : IsDate (eaDay y) y (eaM y) (eaD y) := ⟨hm, rfl⟩
  obtain ⟨N, hN⟩ : ∃ N, N = eaDay y := ⟨_, rfl⟩
  obtain ⟨em, hem⟩ : ∃ N, N = eaM y := ⟨_, rfl⟩
  obtain ⟨ed, hed⟩ : ∃ N, N = eaD y := ⟨_, rfl⟩
  have hdb2 : 0 ≤ N ∧ N ≤ 2932896 := by rw [hN]; exact hdb
  rw [← hN, ← hem, ← hed] at hda
  rw [← hem, ← hed] at HE
  rw [← hN] at hd
  have HDA := Lib.hid hda
  have HD := Lib.hid hd
  clear hz hT hm hdb hda hN hem hed hd h0 h1
  obtain ⟨hn1, hn2⟩ := hn
  obtain ⟨hN1, hN2⟩ := hdb2
  go_enter Tryd.func96, Tryd.ntmps96
  go_wp2_with fail
  refine (HE.out _).mono ?_
  rintro e w1 ⟨rfl, hB1⟩
  have hz1 := (hB1.block w.heap.size (by simp)).trans HZ.out
  have hB1a := (HB0.out.trans (hB1.mono HB0.out.size)).alloc (HB0.out.trans (hB1.mono HB0.out.size)).size (.cells #[.int .i64 y, .int .i64 em, .int .i64 ed] 110)
  have HZ1 := Lib.hid (heap_old hz1 (.cells #[.int .i64 y, .int .i64 em, .int .i64 ed] 110))
  have HDAY := Lib.hid (day_is _ _ _ _ HDA.out _ (HT.out.next hB1a))
  have hwl : w.heap.size < w1.heap.size := by have := hB1.size; rw [World.size_alloc] at this; omega
  have HB1 := Lib.hid hB1a
  clear hB1 hz1 hB1a HB0 HZ
  go_wp2_with fail
  refine HDAY.out.mono ?_
  rintro e w2 ⟨rfl, hB2⟩
  have hz2 := (hB2.block w.heap.size (by rw [World.size_alloc]; omega)).trans HZ1.out
  have hB2a := HB1.out.trans (hB2.mono HB1.out.size)
  have HOF := Lib.hid ((fun W hW => of_no (N + n) W hW HD.out) w2 (HT.out.next hB2a))
  have HZ2 := Lib.hid hz2
  have HB2 := Lib.hid hB2a
  have hwl2 : w.heap.size < w2.heap.size := by have := hB2.size; rw [World.size_alloc] at this; omega
  clear hB2 hz2 hB2a HB1 HZ1 HDAY hwl
  go_wp2_with fail
  refine HOF.out.mono ?_
  rintro e w3 ⟨rfl, hB3⟩
  have hz3 := heap_old ((hB3.block w.heap.size hwl2).trans HZ2.out) (.cells #[.int .i64 0, .int .i64 0, .int .i64 0] 110)
  have hB3a := HB2.out.trans (hB3.mono HB2.out.size)
  obtain ⟨a0, a1, a2⟩ := hcells3 hz3
  obtain ⟨f0, f1, f2⟩ := frozen3 hz3
  have HF := Lib.hid hz3
  have HBF := Lib.hid (hB3a.alloc hB3a.size (.cells #[.int .i64 0, .int .i64 0, .int .i64 0] 110))
  clear hB3 hz3 hB3a HB2 HZ2 HOF
  go_wp2
  refine bodyPost_ret (results_pas rfl (set3 HF.out 0 0 0)) rfl ?_
  exact ⟨rfl, set3_below HBF.out (Nat.le_refl _) 0 0 0⟩
theorem may_0 : ¬ May 0 0 0 := by decide
theorem pas_any (X y n : Int) (hX0 : 1970 ≤ X) (hX1 : X ≤ 9999) (hn : -100 ≤ n ∧ n ≤ 200) (w : World) (hT : Tabs w) :
    Calls Tryd.prog 96 #[.int .i64 y, .int .i64 n] w fun e w' => (∃ Y M D : Int, yd X Y M D = pd X y n ∧ e = .returned (dateV Y M D)) ∧ Below w.heap.size w w' := by
  have hyz : yd X 0 0 0 = [] := by unfold yd; rw [if_neg (fun h => may_0 h.1)]
  by_cases h : 1970 ≤ y ∧ y ≤ 9999
  · by_cases hd : 0 ≤ eaDay y + n ∧ eaDay y + n ≤ 2932896
    · obtain ⟨Y, M, D, h3⟩ := date_exists (eaDay y + n) hd.1 hd.2
      refine (pas_in y n h.1 h.2 hn Y M D h3 w hT).mono ?_
      rintro e w' ⟨rfl, hB⟩
      refine ⟨⟨Y, M, D, ?_, rfl⟩, hB⟩
      unfold yd pd
      by_cases hp : PaIn X y n
      · have hy := year_of_date h3 hp.2.1 hp.2.2
        rw [if_pos hp, if_pos ⟨h3.1, hy.symm⟩, ← h3.2]
      · rw [if_neg hp, if_neg]
        rintro ⟨hm, rfl⟩
        have := in_year hm
        rw [← h3.2] at this
        exact hp ⟨h, this⟩
    · refine (pas_out y n h.1 h.2 hn hd w hT).mono ?_
      rintro e w' ⟨rfl, hB⟩
      refine ⟨⟨0, 0, 0, ?_, rfl⟩, hB⟩
      rw [hyz, pd, if_neg]
      rintro ⟨_, h1, h2⟩
      have := year_days hX0 hX1
      omega
  · refine (pas_no y n h w).mono ?_
    rintro e w' ⟨rfl, hB⟩
    refine ⟨⟨0, 0, 0, ?_, rfl⟩, hB⟩
    rw [hyz, pd, if_neg (fun q => h q.1)]
end Go.Proofs.YtbffmobjiiicoaaDoor.H8
end
section
/- The contract of datesNear. -/
set_option linter.unusedVariables false
set_option linter.unusedSimpArgs false
namespace Go.Proofs.YtbffmobjiiicoaaDoor.H8
open Go.RowKit Go.Shelf
theorem results_near {a b c d e f : Int} {B : Nat} {tmps : Array Value} {w : World} (h2 : tmps.getD 4 undef = .pointer (some ⟨B, 0, none⟩))
    (hb : w.heap[B]? = some (.cells (hoC a b c d e f) 173 (0, 0))) : (results Tryd.f90 tmps).run Tryd.prog w = .ok (.agg (hoC a b c d e f)) w := by
  have c0 : w.cell? ⟨B, 0, none⟩ = some (.int .i64 a) := cell_of_row w B 0 _ _ _ hb
  have c1 : w.cell? ⟨B, 1, none⟩ = some (.int .i64 b) := cell_of_row w B 1 _ _ _ hb
  have c2 : w.cell? ⟨B, 2, none⟩ = some (.int .i64 c) := cell_of_row w B 2 _ _ _ hb
  have c3 : w.cell? ⟨B, 3, none⟩ = some (.int .i64 d) := cell_of_row w B 3 _ _ _ hb
  have c4 : w.cell? ⟨B, 4, none⟩ = some (.int .i64 e) := cell_of_row w B 4 _ _ _ hb
  have c5 : w.cell? ⟨B, 5, none⟩ = some (.int .i64 f) := cell_of_row w B 5 _ _ _ hb
  simp only [Array.getD_eq_getD_getElem?] at h2
  simp [results, Tryd.results90, go_sem, h2, c0, c1, c2, c3, c4, c5]
theorem set6a {Z : World} {B : Nat} {x0 x1 x2 x3 x4 x5 : Int} (h : Z.heap[B]? = some (.cells (hoC x0 x1 x2 x3 x4 x5) 173 (0, 0))) (a b c d e f : Int) :
    ((((((Z.setCell ⟨B, 0, none⟩ (.int .i64 a)).setCell ⟨B, 1, none⟩ (.int .i64 b)).setCell ⟨B, 2, none⟩ (.int .i64 c)).setCell ⟨B, 3, none⟩ (.int .i64 d)).setCell ⟨B, 4, none⟩ (.int .i64 e)).setCell ⟨B, 5, none⟩ (.int .i64 f)).heap[B]? = some (.cells (hoC a b c d e f) 173 (0, 0)) :=
  heap_setCell_same _ B 5 _ _ _ (heap_setCell_same _ B 4 _ _ _ (heap_setCell_same _ B 3 _ _ _ (heap_setCell_same _ B 2 _ _ _ (heap_setCell_same _ B 1 _ _ _ (heap_setCell_same _ B 0 _ _ _ h)))))
theorem set3a {Z : World} {B : Nat} {x0 x1 x2 x3 x4 x5 : Int} (h : Z.heap[B]? = some (.cells (hoC x0 x1 x2 x3 x4 x5) 173 (0, 0))) (a b c : Int) :
    (((Z.setCell ⟨B, 0, none⟩ (.int .i64 a)).setCell ⟨B, 1, none⟩ (.int .i64 b)).setCell ⟨B, 2, none⟩ (.int .i64 c)).heap[B]? = some (.cells (hoC a b c x3 x4 x5) 173 (0, 0)) :=
  heap_setCell_same _ B 2 _ _ _ (heap_setCell_same _ B 1 _ _ _ (heap_setCell_same _ B 0 _ _ _ h))
theorem set3_other {Z : World} {B C : Nat} (hne : C ≠ B) (a b c : Int) :
    (((Z.setCell ⟨B, 0, none⟩ (.int .i64 a)).setCell ⟨B, 1, none⟩ (.int .i64 b)).setCell ⟨B, 2, none⟩ (.int .i64 c)).heap[C]? = Z.heap[C]? :=
  (heap_setCell_other _ ⟨B, 2, none⟩ C _ hne).trans ((heap_setCell_other _ ⟨B, 1, none⟩ C _ hne).trans (heap_setCell_other _ ⟨B, 0, none⟩ C _ hne))
theorem set6_other {Z : World} {B C : Nat} (hne : C ≠ B) (a b c d e f : Int) :
    ((((((Z.setCell ⟨B, 0, none⟩ (.int .i64 a)).setCell ⟨B, 1, none⟩ (.int .i64 b)).setCell ⟨B, 2, none⟩ (.int .i64 c)).setCell ⟨B, 3, none⟩ (.int .i64 d)).setCell ⟨B, 4, none⟩ (.int .i64 e)).setCell ⟨B, 5, none⟩ (.int .i64 f)).heap[C]? = Z.heap[C]? :=
  (heap_setCell_other _ ⟨B, 5, none⟩ C _ hne).trans ((heap_setCell_other _ ⟨B, 4, none⟩ C _ hne).trans ((heap_setCell_other _ ⟨B, 3, none⟩ C _ hne).trans (set3_other hne a b c)))
theorem cells6a {W : World} {B : Nat} {k y m d v n : Int} {U : TypeId} {fr : Nat × Nat} (h : W.heap[B]? = some (.cells (hoC k y m d v n) U fr)) :
    W.cell? ⟨B, 0, none⟩ = some (.int .i64 k) ∧ W.cell? ⟨B, 1, none⟩ = some (.int .i64 y) ∧ W.cell? ⟨B, 2, none⟩ = some (.int .i64 m) ∧ W.cell? ⟨B, 3, none⟩ = some (.int .i64 d) ∧ W.cell? ⟨B, 4, none⟩ = some (.int .i64 v) ∧ W.cell? ⟨B, 5, none⟩ = some (.int .i64 n) :=
  ⟨cell_of_row W B 0 _ _ _ h, cell_of_row W B 1 _ _ _ h, cell_of_row W B 2 _ _ _ h, cell_of_row W B 3 _ _ _ h, cell_of_row W B 4 _ _ _ h, cell_of_row W B 5 _ _ _ h⟩
theorem frozen6a {W : World} {B : Nat} {k y m d v n : Int} {U : TypeId} (h : W.heap[B]? = some (.cells (hoC k y m d v n) U (0, 0))) :
    W.frozen? ⟨B, 0, none⟩ = false ∧ W.frozen? ⟨B, 1, none⟩ = false ∧ W.frozen? ⟨B, 2, none⟩ = false ∧ W.frozen? ⟨B, 3, none⟩ = false ∧ W.frozen? ⟨B, 4, none⟩ = false ∧ W.frozen? ⟨B, 5, none⟩ = false :=
  ⟨frozen_of_row W B 0 _ _ h, frozen_of_row W B 1 _ _ h, frozen_of_row W B 2 _ _ h, frozen_of_row W B 3 _ _ h, frozen_of_row W B 4 _ _ h, frozen_of_row W B 5 _ _ h⟩
set_option maxRecDepth 100000 in
set_option maxHeartbeats 2000000 in
theorem near_2 (yy y m d v n : Int) (w : World) (hT : Tabs w) :
    Calls Tryd.prog 90 #[.agg (hoC 2 y m d v n), .int .i64 yy] w fun e w' => e = .returned (.agg (hoC y m d 0 0 0)) ∧ Below w.heap.size w w' := by
  have e1 : w.heap.size + 1 = (w.alloc (.cells (hoC 2 y m d v n) 132)).heap.size := by rw [World.size_alloc]
  have e2 : w.heap.size + 1 + 1 = ((w.alloc (.cells (hoC 2 y m d v n) 132)).alloc (.cells (hoC 0 0 0 0 0 0) 173)).heap.size := by rw [World.size_alloc, World.size_alloc]
  have r0 : (((w.alloc (.cells (hoC 2 y m d v n) 132)).alloc (.cells (hoC 0 0 0 0 0 0) 173)).alloc (.cells (hoC 0 0 0 0 0 0) 173)).heap[w.heap.size]? = some (.cells (hoC 2 y m d v n) 132) := heap_old (heap_old (heap_alloc_new w _) _) _
  have r1 : (((w.alloc (.cells (hoC 2 y m d v n) 132)).alloc (.cells (hoC 0 0 0 0 0 0) 173)).alloc (.cells (hoC 0 0 0 0 0 0) 173)).heap[w.heap.size + 1]? = some (.cells (hoC 0 0 0 0 0 0) 173) := heap_old (by rw [e1]; exact heap_alloc_new _ _) _
  have r2 : (((w.alloc (.cells (hoC 2 y m d v n) 132)).alloc (.cells (hoC 0 0 0 0 0 0) 173)).alloc (.cells (hoC 0 0 0 0 0 0) 173)).heap[w.heap.size + 1 + 1]? = some (.cells (hoC 0 0 0 0 0 0) 173) := by rw [e2]; exact heap_alloc_new _ _
  have hb : Below w.heap.size w (((w.alloc (.cells (hoC 2 y m d v n) 132)).alloc (.cells (hoC 0 0 0 0 0 0) 173)).alloc (.cells (hoC 0 0 0 0 0 0) 173)) := (((Below.refl _ w).alloc (Nat.le_refl _) _).alloc (by simp) _).alloc (by simp; omega) _
  have hzs : (((w.alloc (.cells (hoC 2 y m d v n) 132)).alloc (.cells (hoC 0 0 0 0 0 0) 173)).alloc (.cells (hoC 0 0 0 0 0 0) 173)).heap.size = w.heap.size + 3 := by simp [World.size_alloc]
  obtain ⟨X, hX⟩ : ∃ X, X = (((w.alloc (.cells (hoC 2 y m d v n) 132)).alloc (.cells (hoC 0 0 0 0 0 0) 173)).alloc (.cells (hoC 0 0 0 0 0 0) 173)) := ⟨_, rfl⟩
  rw [← hX] at r0 r1 r2 hb hzs
  have HR1 := Lib.hid r1
  have HR2 := Lib.hid r2
  have HB := Lib.hid hb
  have HX := Lib.hid hX
  have HT := Lib.hid (hT.next hb)
  clear r0 r1 r2 hb hX hT e1 e2
  go_enter Tryd.func90, Tryd.ntmps90
  go_wp2_with fail
  rw [← HX.out]
  refine (dateIn_any ⟨2, y, m, d, v, n⟩ X).mono ?_
  rintro e w2 ⟨rfl, hB2⟩
  have z1 := (hB2.block (w.heap.size + 1) (by omega)).trans HR1.out
  have z2 := (hB2.block (w.heap.size + 1 + 1) (by omega)).trans HR2.out
  have hbf := HB.out.trans (hB2.mono (by omega))
  obtain ⟨a0, a1, a2, a3, a4, a5⟩ := cells6a z2
  obtain ⟨f0, f1, f2, _, _, _⟩ := frozen6a z2
  obtain ⟨b0, b1, b2, b3, b4, b5⟩ := cells6a z1
  obtain ⟨g0, g1, g2, g3, g4, g5⟩ := frozen6a z1
  have HF := Lib.hid (set6a (Z := ((w2.setCell ⟨w.heap.size + 1 + 1, 0, none⟩ (.int .i64 (y))).setCell ⟨w.heap.size + 1 + 1, 1, none⟩ (.int .i64 (m))).setCell ⟨w.heap.size + 1 + 1, 2, none⟩ (.int .i64 (d))) ((set3_other (by omega) (y) (m) (d)).trans z1) (y) (m) (d) 0 0 0)
  have HBF := Lib.hid (set6_below (set3_below hbf (B := w.heap.size + 1 + 1) (by omega) (y) (m) (d)) (B := w.heap.size + 1) (by omega) (y) (m) (d) 0 0 0)
  clear hB2 z1 z2 hbf
  go_wp2
  refine bodyPost_ret (results_near rfl HF.out) rfl ?_
  exact ⟨rfl, HBF.out⟩
set_option maxRecDepth 100000 in
set_option maxHeartbeats 2000000 in
theorem near_1 (yy y m d v n : Int) (w : World) (hT : Tabs w) :
    Calls Tryd.prog 90 #[.agg (hoC 1 y m d v n), .int .i64 yy] w fun e w' => e = .returned (.agg (hoC yy m d 0 0 0)) ∧ Below w.heap.size w w' := by
  have e1 : w.heap.size + 1 = (w.alloc (.cells (hoC 1 yy m d v n) 132)).heap.size := by rw [World.size_alloc]
  have e2 : w.heap.size + 1 + 1 = ((w.alloc (.cells (hoC 1 yy m d v n) 132)).alloc (.cells (hoC 0 0 0 0 0 0) 173)).heap.size := by rw [World.size_alloc, World.size_alloc]
  have r0 : (((w.alloc (.cells (hoC 1 yy m d v n) 132)).alloc (.cells (hoC 0 0 0 0 0 0) 173)).alloc (.cells (hoC 0 0 0 0 0 0) 173)).heap[w.heap.size]? = some (.cells (hoC 1 yy m d v n) 132) := heap_old (heap_old (heap_alloc_new w _) _) _
  have r1 : (((w.alloc (.cells (hoC 1 yy m d v n) 132)).alloc (.cells (hoC 0 0 0 0 0 0) 173)).alloc (.cells (hoC 0 0 0 0 0 0) 173)).heap[w.heap.size + 1]? = some (.cells (hoC 0 0 0 0 0 0) 173) := heap_old (by rw [e1]; exact heap_alloc_new _ _) _
  have r2 : (((w.alloc (.cells (hoC 1 yy m d v n) 132)).alloc (.cells (hoC 0 0 0 0 0 0) 173)).alloc (.cells (hoC 0 0 0 0 0 0) 173)).heap[w.heap.size + 1 + 1]? = some (.cells (hoC 0 0 0 0 0 0) 173) := by rw [e2]; exact heap_alloc_new _ _
  have hb : Below w.heap.size w (((w.alloc (.cells (hoC 1 yy m d v n) 132)).alloc (.cells (hoC 0 0 0 0 0 0) 173)).alloc (.cells (hoC 0 0 0 0 0 0) 173)) := (((Below.refl _ w).alloc (Nat.le_refl _) _).alloc (by simp) _).alloc (by simp; omega) _
  have hzs : (((w.alloc (.cells (hoC 1 yy m d v n) 132)).alloc (.cells (hoC 0 0 0 0 0 0) 173)).alloc (.cells (hoC 0 0 0 0 0 0) 173)).heap.size = w.heap.size + 3 := by simp [World.size_alloc]
  obtain ⟨X, hX⟩ : ∃ X, X = (((w.alloc (.cells (hoC 1 yy m d v n) 132)).alloc (.cells (hoC 0 0 0 0 0 0) 173)).alloc (.cells (hoC 0 0 0 0 0 0) 173)) := ⟨_, rfl⟩
  rw [← hX] at r0 r1 r2 hb hzs
  have HR1 := Lib.hid r1
  have HR2 := Lib.hid r2
  have HB := Lib.hid hb
  have HX := Lib.hid hX
  have HT := Lib.hid (hT.next hb)
  clear r0 r1 r2 hb hX hT e1 e2
  go_enter Tryd.func90, Tryd.ntmps90
  go_wp2_with fail
  rw [← HX.out]
  refine (dateIn_any ⟨1, yy, m, d, v, n⟩ X).mono ?_
  rintro e w2 ⟨rfl, hB2⟩
  have z1 := (hB2.block (w.heap.size + 1) (by omega)).trans HR1.out
  have z2 := (hB2.block (w.heap.size + 1 + 1) (by omega)).trans HR2.out
  have hbf := HB.out.trans (hB2.mono (by omega))
  obtain ⟨a0, a1, a2, a3, a4, a5⟩ := cells6a z2
  obtain ⟨f0, f1, f2, _, _, _⟩ := frozen6a z2
  obtain ⟨b0, b1, b2, b3, b4, b5⟩ := cells6a z1
  obtain ⟨g0, g1, g2, g3, g4, g5⟩ := frozen6a z1
  have HF := Lib.hid (set6a (Z := ((w2.setCell ⟨w.heap.size + 1 + 1, 0, none⟩ (.int .i64 (yy))).setCell ⟨w.heap.size + 1 + 1, 1, none⟩ (.int .i64 (m))).setCell ⟨w.heap.size + 1 + 1, 2, none⟩ (.int .i64 (d))) ((set3_other (by omega) (yy) (m) (d)).trans z1) (yy) (m) (d) 0 0 0)
  have HBF := Lib.hid (set6_below (set3_below hbf (B := w.heap.size + 1 + 1) (by omega) (yy) (m) (d)) (B := w.heap.size + 1) (by omega) (yy) (m) (d) 0 0 0)
  clear hB2 z1 z2 hbf
  go_wp2
  refine bodyPost_ret (results_near rfl HF.out) rfl ?_
  exact ⟨rfl, HBF.out⟩
set_option maxRecDepth 100000 in
set_option maxHeartbeats 2000000 in
theorem near_3yes (yy y m d v n : Int) (h : NthIs yy m v n) (w : World) (hT : Tabs w) :
    Calls Tryd.prog 90 #[.agg (hoC 3 y m d v n), .int .i64 yy] w fun e w' => e = .returned (.agg (hoC yy m (nthD yy m v n) 0 0 0)) ∧ Below w.heap.size w w' := by
  have e1 : w.heap.size + 1 = (w.alloc (.cells (hoC 3 y m d v n) 132)).heap.size := by rw [World.size_alloc]
  have e2 : w.heap.size + 1 + 1 = ((w.alloc (.cells (hoC 3 y m d v n) 132)).alloc (.cells (hoC 0 0 0 0 0 0) 173)).heap.size := by rw [World.size_alloc, World.size_alloc]
  have r0 : (((w.alloc (.cells (hoC 3 y m d v n) 132)).alloc (.cells (hoC 0 0 0 0 0 0) 173)).alloc (.cells (hoC 0 0 0 0 0 0) 173)).heap[w.heap.size]? = some (.cells (hoC 3 y m d v n) 132) := heap_old (heap_old (heap_alloc_new w _) _) _
  have r1 : (((w.alloc (.cells (hoC 3 y m d v n) 132)).alloc (.cells (hoC 0 0 0 0 0 0) 173)).alloc (.cells (hoC 0 0 0 0 0 0) 173)).heap[w.heap.size + 1]? = some (.cells (hoC 0 0 0 0 0 0) 173) := heap_old (by rw [e1]; exact heap_alloc_new _ _) _
  have r2 : (((w.alloc (.cells (hoC 3 y m d v n) 132)).alloc (.cells (hoC 0 0 0 0 0 0) 173)).alloc (.cells (hoC 0 0 0 0 0 0) 173)).heap[w.heap.size + 1 + 1]? = some (.cells (hoC 0 0 0 0 0 0) 173) := by rw [e2]; exact heap_alloc_new _ _
  have hb : Below w.heap.size w (((w.alloc (.cells (hoC 3 y m d v n) 132)).alloc (.cells (hoC 0 0 0 0 0 0) 173)).alloc (.cells (hoC 0 0 0 0 0 0) 173)) := (((Below.refl _ w).alloc (Nat.le_refl _) _).alloc (by simp) _).alloc (by simp; omega) _
  have hzs : (((w.alloc (.cells (hoC 3 y m d v n) 132)).alloc (.cells (hoC 0 0 0 0 0 0) 173)).alloc (.cells (hoC 0 0 0 0 0 0) 173)).heap.size = w.heap.size + 3 := by simp [World.size_alloc]
  obtain ⟨X, hX⟩ : ∃ X, X = (((w.alloc (.cells (hoC 3 y m d v n) 132)).alloc (.cells (hoC 0 0 0 0 0 0) 173)).alloc (.cells (hoC 0 0 0 0 0 0) 173)) := ⟨_, rfl⟩
  rw [← hX] at r0 r1 r2 hb hzs
  have HR1 := Lib.hid r1
  have HR2 := Lib.hid r2
  have HB := Lib.hid hb
  have HX := Lib.hid hX
  have HT := Lib.hid (hT.next hb)
  have HN := Lib.hid (nth_yes yy m v n h X (HT.out))
  obtain ⟨a0', a1', a2', a3', a4', a5'⟩ := cells6a r0
  obtain ⟨Q, hQ⟩ : ∃ Q, Q = nthD yy m v n := ⟨_, rfl⟩
  have HQ := Lib.hid hQ
  clear r0 r1 r2 hb hX hT e1 e2 h
  go_enter Tryd.func90, Tryd.ntmps90
  go_wp2_with fail
  rw [← HX.out]
  refine HN.out.mono ?_
  rintro e w2 ⟨rfl, hB2⟩
  have z1 := (hB2.block (w.heap.size + 1) (by omega)).trans HR1.out
  have z2 := (hB2.block (w.heap.size + 1 + 1) (by omega)).trans HR2.out
  have hbf := HB.out.trans (hB2.mono (by omega))
  obtain ⟨a0, a1, a2, a3, a4, a5⟩ := cells6a z2
  obtain ⟨f0, f1, f2, _, _, _⟩ := frozen6a z2
  obtain ⟨b0, b1, b2, b3, b4, b5⟩ := cells6a z1
  obtain ⟨g0, g1, g2, g3, g4, g5⟩ := frozen6a z1
  have HF := Lib.hid (set6a (Z := ((w2.setCell ⟨w.heap.size + 1 + 1, 0, none⟩ (.int .i64 (yy))).setCell ⟨w.heap.size + 1 + 1, 1, none⟩ (.int .i64 (m))).setCell ⟨w.heap.size + 1 + 1, 2, none⟩ (.int .i64 (nthD yy m v n))) ((set3_other (by omega) (yy) (m) (nthD yy m v n)).trans z1) (yy) (m) (nthD yy m v n) 0 0 0)
  have HBF := Lib.hid (set6_below (set3_below hbf (B := w.heap.size + 1 + 1) (by omega) (yy) (m) (nthD yy m v n)) (B := w.heap.size + 1) (by omega) (yy) (m) (nthD yy m v n) 0 0 0)
  clear hB2 z1 z2 hbf
  go_wp2
  refine bodyPost_ret (results_near rfl HF.out) rfl ?_
  exact ⟨rfl, HBF.out⟩
set_option maxRecDepth 100000 in
set_option maxHeartbeats 2000000 in
theorem near_3no (yy y m d v n : Int) (h : ¬ NthIs yy m v n) (w : World) (hT : Tabs w) :
    Calls Tryd.prog 90 #[.agg (hoC 3 y m d v n), .int .i64 yy] w fun e w' => e = .returned (.agg (hoC 0 0 0 0 0 0)) ∧ Below w.heap.size w w' := by
  have e1 : w.heap.size + 1 = (w.alloc (.cells (hoC 3 y m d v n) 132)).heap.size := by rw [World.size_alloc]
  have e2 : w.heap.size + 1 + 1 = ((w.alloc (.cells (hoC 3 y m d v n) 132)).alloc (.cells (hoC 0 0 0 0 0 0) 173)).heap.size := by rw [World.size_alloc, World.size_alloc]
  have r0 : (((w.alloc (.cells (hoC 3 y m d v n) 132)).alloc (.cells (hoC 0 0 0 0 0 0) 173)).alloc (.cells (hoC 0 0 0 0 0 0) 173)).heap[w.heap.size]? = some (.cells (hoC 3 y m d v n) 132) := heap_old (heap_old (heap_alloc_new w _) _) _
  have r1 : (((w.alloc (.cells (hoC 3 y m d v n) 132)).alloc (.cells (hoC 0 0 0 0 0 0) 173)).alloc (.cells (hoC 0 0 0 0 0 0) 173)).heap[w.heap.size + 1]? = some (.cells (hoC 0 0 0 0 0 0) 173) := heap_old (by rw [e1]; exact heap_alloc_new _ _) _
  have r2 : (((w.alloc (.cells (hoC 3 y m d v n) 132)).alloc (.cells (hoC 0 0 0 0 0 0) 173)).alloc (.cells (hoC 0 0 0 0 0 0) 173)).heap[w.heap.size + 1 + 1]? = some (.cells (hoC 0 0 0 0 0 0) 173) := by rw [e2]; exact heap_alloc_new _ _
  have hb : Below w.heap.size w (((w.alloc (.cells (hoC 3 y m d v n) 132)).alloc (.cells (hoC 0 0 0 0 0 0) 173)).alloc (.cells (hoC 0 0 0 0 0 0) 173)) := (((Below.refl _ w).alloc (Nat.le_refl _) _).alloc (by simp) _).alloc (by simp; omega) _
  have hzs : (((w.alloc (.cells (hoC 3 y m d v n) 132)).alloc (.cells (hoC 0 0 0 0 0 0) 173)).alloc (.cells (hoC 0 0 0 0 0 0) 173)).heap.size = w.heap.size + 3 := by simp [World.size_alloc]
  obtain ⟨X, hX⟩ : ∃ X, X = (((w.alloc (.cells (hoC 3 y m d v n) 132)).alloc (.cells (hoC 0 0 0 0 0 0) 173)).alloc (.cells (hoC 0 0 0 0 0 0) 173)) := ⟨_, rfl⟩
  rw [← hX] at r0 r1 r2 hb hzs
  have HR1 := Lib.hid r1
  have HR2 := Lib.hid r2
  have HB := Lib.hid hb
  have HX := Lib.hid hX
  have HT := Lib.hid (hT.next hb)
  have HN := Lib.hid (nth_no yy m v n h X (HT.out))
  obtain ⟨a0', a1', a2', a3', a4', a5'⟩ := cells6a r0
  obtain ⟨Q, hQ⟩ : ∃ Q, Q = nthD yy m v n := ⟨_, rfl⟩
  have HQ := Lib.hid hQ
  clear r0 r1 r2 hb hX hT e1 e2 h
  go_enter Tryd.func90, Tryd.ntmps90
  go_wp2_with fail
  rw [← HX.out]
  refine HN.out.mono ?_
  rintro e w2 ⟨rfl, hB2⟩
  have z1 := (hB2.block (w.heap.size + 1) (by omega)).trans HR1.out
  have z2 := (hB2.block (w.heap.size + 1 + 1) (by omega)).trans HR2.out
  have hbf := HB.out.trans (hB2.mono (by omega))
  obtain ⟨a0, a1, a2, a3, a4, a5⟩ := cells6a z2
  obtain ⟨f0, f1, f2, _, _, _⟩ := frozen6a z2
  obtain ⟨b0, b1, b2, b3, b4, b5⟩ := cells6a z1
  obtain ⟨g0, g1, g2, g3, g4, g5⟩ := frozen6a z1
  have HF := Lib.hid (set6a (Z := ((w2.setCell ⟨w.heap.size + 1 + 1, 0, none⟩ (.int .i64 (0))).setCell ⟨w.heap.size + 1 + 1, 1, none⟩ (.int .i64 (0))).setCell ⟨w.heap.size + 1 + 1, 2, none⟩ (.int .i64 (0))) ((set3_other (by omega) (0) (0) (0)).trans z1) (0) (0) (0) 0 0 0)
  have HBF := Lib.hid (set6_below (set3_below hbf (B := w.heap.size + 1 + 1) (by omega) (0) (0) (0)) (B := w.heap.size + 1) (by omega) (0) (0) (0) 0 0 0)
  clear hB2 z1 z2 hbf
  go_wp2
  refine bodyPost_ret (results_near rfl HF.out) rfl ?_
  exact ⟨rfl, HBF.out⟩
set_option maxRecDepth 100000 in
set_option maxHeartbeats 2000000 in
theorem near_4 (yy y m d v n : Int) (hX0 : 1970 ≤ yy) (hX1 : yy ≤ 9999) (hn : -100 ≤ n ∧ n ≤ 200) (w : World) (hT : Tabs w) :
    Calls Tryd.prog 90 #[.agg (hoC 4 y m d v n), .int .i64 yy] w fun e w' => (∃ Y1 M1 D1 Y2 M2 D2 : Int, yd yy Y1 M1 D1 = pd yy yy n ∧ yd yy Y2 M2 D2 = pd yy (yy + 1) n ∧ e = .returned (.agg (hoC Y1 M1 D1 Y2 M2 D2))) ∧ Below w.heap.size w w' := by
  have e1 : w.heap.size + 1 = (w.alloc (.cells (hoC 4 y m d v n) 132)).heap.size := by rw [World.size_alloc]
  have e2 : w.heap.size + 1 + 1 = ((w.alloc (.cells (hoC 4 y m d v n) 132)).alloc (.cells (hoC 0 0 0 0 0 0) 173)).heap.size := by rw [World.size_alloc, World.size_alloc]
  have r0 : (((w.alloc (.cells (hoC 4 y m d v n) 132)).alloc (.cells (hoC 0 0 0 0 0 0) 173)).alloc (.cells (hoC 0 0 0 0 0 0) 173)).heap[w.heap.size]? = some (.cells (hoC 4 y m d v n) 132) := heap_old (heap_old (heap_alloc_new w _) _) _
  have r1 : (((w.alloc (.cells (hoC 4 y m d v n) 132)).alloc (.cells (hoC 0 0 0 0 0 0) 173)).alloc (.cells (hoC 0 0 0 0 0 0) 173)).heap[w.heap.size + 1]? = some (.cells (hoC 0 0 0 0 0 0) 173) := heap_old (by rw [e1]; exact heap_alloc_new _ _) _
  have r2 : (((w.alloc (.cells (hoC 4 y m d v n) 132)).alloc (.cells (hoC 0 0 0 0 0 0) 173)).alloc (.cells (hoC 0 0 0 0 0 0) 173)).heap[w.heap.size + 1 + 1]? = some (.cells (hoC 0 0 0 0 0 0) 173) := by rw [e2]; exact heap_alloc_new _ _
  have hb : Below w.heap.size w (((w.alloc (.cells (hoC 4 y m d v n) 132)).alloc (.cells (hoC 0 0 0 0 0 0) 173)).alloc (.cells (hoC 0 0 0 0 0 0) 173)) := (((Below.refl _ w).alloc (Nat.le_refl _) _).alloc (by simp) _).alloc (by simp; omega) _
  have hzs : (((w.alloc (.cells (hoC 4 y m d v n) 132)).alloc (.cells (hoC 0 0 0 0 0 0) 173)).alloc (.cells (hoC 0 0 0 0 0 0) 173)).heap.size = w.heap.size + 3 := by simp [World.size_alloc]
  obtain ⟨X, hX⟩ : ∃ X, X = (((w.alloc (.cells (hoC 4 y m d v n) 132)).alloc (.cells (hoC 0 0 0 0 0 0) 173)).alloc (.cells (hoC 0 0 0 0 0 0) 173)) := ⟨_, rfl⟩
  rw [← hX] at r0 r1 r2 hb hzs
  have HR1 := Lib.hid r1
  have HR2 := Lib.hid r2
  have HB := Lib.hid hb
  have HX := Lib.hid hX
  have HT := Lib.hid (hT.next hb)
  have HP1 := Lib.hid (pas_any yy yy n hX0 hX1 hn)
  have HW := Lib.hid (show IntKind.i64.wrap (yy + 1) = yy + 1 from by simp only [IntKind.wrap_i64, wrap64]; omega)
  have HP2 := Lib.hid (pas_any yy (IntKind.i64.wrap (yy + 1)) n hX0 hX1 hn)
  have HR0 := Lib.hid r0
  have HZS := Lib.hid hzs
  have q1 : X.drew.cell? ⟨w.heap.size, 5, none⟩ = some (.int .i64 n) := cell_of_row X _ 5 _ _ _ r0
  have hT1 : Tabs X.drew := HT.out
  obtain ⟨a0', a1', a2', a3', a4', a5'⟩ := cells6a r0
  clear r0 r1 r2 hb hX hT e1 e2 hn hzs
  go_enter Tryd.func90, Tryd.ntmps90
  go_wp2_with fail
  rw [← HX.out]
  go_region_held3 (fun w' => w'.cell? ⟨w.heap.size, 5, none⟩ = some (.int .i64 n))
    (first | (with_reducible exact q1) | (with_reducible exact q2) | (with_reducible exact q3) | (with_reducible exact q4) | go_keep)
    (first
      | (go_at_call 96; ((with_reducible refine (HP1.out _ hT1).mono ?_); rintro e w2' ⟨⟨Y1, M1, D1, hy1, rfl⟩, hB2⟩; have g2 := (hB2.block w.heap.size (by rw [show X.drew.heap.size = w.heap.size + 3 from HZS.out]; omega)).trans HR0.out; have q2 : w2'.cell? ⟨w.heap.size, 5, none⟩ = some (.int .i64 n) := cell_of_row w2' _ 5 _ _ _ g2; have hT2 := hT1.next hB2; have G2 := Lib.hid g2; have HB2 := Lib.hid hB2; have HY1 := Lib.hid hy1; clear g2 hB2 hy1))
      | (go_at_call 96; ((with_reducible refine (HP2.out _ hT2).mono ?_); rintro e w3' ⟨⟨Y2, M2, D2, hy2, rfl⟩, hB3⟩; have hs2 : w.heap.size + 3 ≤ w2'.heap.size := (by have := HB2.out.size; rw [show X.drew.heap.size = w.heap.size + 3 from HZS.out] at this; exact this); have g3 := (hB3.block w.heap.size (by omega)).trans G2.out; have q3 : w3'.cell? ⟨w.heap.size, 5, none⟩ = some (.int .i64 n) := cell_of_row w3' _ 5 _ _ _ g3; have q4 : ((((((w3'.setCell ⟨w.heap.size + 1 + 1, 0, none⟩ (.int .i64 Y1)).setCell ⟨w.heap.size + 1 + 1, 1, none⟩ (.int .i64 M1)).setCell ⟨w.heap.size + 1 + 1, 2, none⟩ (.int .i64 D1)).setCell ⟨w.heap.size + 1 + 1, 3, none⟩ (.int .i64 Y2)).setCell ⟨w.heap.size + 1 + 1, 4, none⟩ (.int .i64 M2)).setCell ⟨w.heap.size + 1 + 1, 5, none⟩ (.int .i64 D2)).cell? ⟨w.heap.size, 5, none⟩ = some (.int .i64 n) := cell_of_row _ _ 5 _ _ _ ((set6_other (by omega) Y1 M1 D1 Y2 M2 D2).trans g3); have z2 := (hB3.block (w.heap.size + 1 + 1) (by omega)).trans ((HB2.out.block (w.heap.size + 1 + 1) (by rw [show X.drew.heap.size = w.heap.size + 3 from HZS.out]; omega)).trans HR2.out); obtain ⟨x0, x1, x2, x3, x4, x5⟩ := cells6a z2; obtain ⟨y0, y1, y2, y3, y4, y5⟩ := frozen6a z2; have z1 := (hB3.block (w.heap.size + 1) (by omega)).trans ((HB2.out.block (w.heap.size + 1) (by rw [show X.drew.heap.size = w.heap.size + 3 from HZS.out]; omega)).trans HR1.out); have Z1 := Lib.hid z1; have Z2 := Lib.hid z2; have HB3 := Lib.hid hB3; have HY2 := Lib.hid hy2; have HS2 := Lib.hid hs2; clear hB3 hy2 g3 z1 z2 hs2)))
  all_goals
    rename_i hHeld
    have hbf := HB.out.drew.trans ((HB2.out.mono (by rw [show X.drew.heap.size = w.heap.size + 3 from HZS.out]; omega)).trans (HB3.out.mono (by have := HS2.out; omega)))
    have hbs := set6_below hbf (B := w.heap.size + 1 + 1) (by omega) Y1 M1 D1 Y2 M2 D2
    have p1 := (set6_other (B := w.heap.size + 1 + 1) (C := w.heap.size + 1) (by omega) Y1 M1 D1 Y2 M2 D2).trans Z1.out
    have p2 := set6a Z2.out Y1 M1 D1 Y2 M2 D2
    clear hHeld q1 q2 q3 q4 x0 x1 x2 x3 x4 x5 y0 y1 y2 y3 y4 y5 Z1 Z2 hbf hT2 hT1 HB2 HB3 HS2
    generalize ((((((w3'.setCell ⟨w.heap.size + 1 + 1, 0, none⟩ (.int .i64 Y1)).setCell ⟨w.heap.size + 1 + 1, 1, none⟩ (.int .i64 M1)).setCell ⟨w.heap.size + 1 + 1, 2, none⟩ (.int .i64 D1)).setCell ⟨w.heap.size + 1 + 1, 3, none⟩ (.int .i64 Y2)).setCell ⟨w.heap.size + 1 + 1, 4, none⟩ (.int .i64 M2)).setCell ⟨w.heap.size + 1 + 1, 5, none⟩ (.int .i64 D2)) = U at p1 p2 hbs ⊢
    obtain ⟨k0, k1, k2, k3, k4, k5⟩ := cells6a p2
    obtain ⟨b0, b1, b2, b3, b4, b5⟩ := cells6a p1
    obtain ⟨g0, g1, g2, g3, g4, g5⟩ := frozen6a p1
    have HF := Lib.hid (set6a p1 Y1 M1 D1 Y2 M2 D2)
    have HBF := Lib.hid (set6_below hbs (B := w.heap.size + 1) (by omega) Y1 M1 D1 Y2 M2 D2)
    clear p1 p2 hbs
    go_wp2
    refine bodyPost_ret (results_near rfl HF.out) rfl ?_
    exact ⟨⟨Y1, M1, D1, Y2, M2, D2, HY1.out, by rw [← HW.out]; exact HY2.out, rfl⟩, HBF.out⟩
theorem near_0 (yy k y m d v n : Int) : True := trivial
theorem yd_zero (X : Int) : yd X 0 0 0 = [] := by unfold yd; rw [if_neg (fun h => may_0 h.1)]
theorem yd_nth {yy m v n : Int} (h0 : 1970 ≤ yy) (h1 : yy ≤ 9999) (h : NthIs yy m v n) : yd yy yy m (nthD yy m v n) = [dayOf yy m (nthD yy m v n)] := by
  obtain ⟨hm1, hw, hn⟩ := h
  have hf := nthF_bounds yy m v
  have hdl := dlen_ge (y := yy) (m := m) hm1.2.2.1 hm1.2.2.2.1
  have : May yy m (nthD yy m v n) := by
    refine ⟨hm1.1, hm1.2.1, hm1.2.2.1, hm1.2.2.2.1, ?_, ?_⟩
    · unfold nthD; split <;> omega
    · rcases hn with hn | ⟨a, b, c⟩
      · unfold nthD; rw [if_pos hn]; omega
      · exact c
  unfold yd
  rw [if_pos ⟨this, rfl⟩]
theorem near_any (h : Ho) (yy : Int) (hh : HoIs h) (h0 : 1970 ≤ yy) (h1 : yy ≤ 9999) (w : World) (hT : Tabs w) :
    Calls Tryd.prog 90 #[hoV h, .int .i64 yy] w fun e w' => (∃ Y1 M1 D1 Y2 M2 D2 : Int, yd yy Y1 M1 D1 ++ yd yy Y2 M2 D2 = hoDays h yy ∧ e = .returned (.agg (hoC Y1 M1 D1 Y2 M2 D2))) ∧ Below w.heap.size w w' := by
  obtain ⟨k, y, m, d, v, n⟩ := h
  rcases hh with ⟨hk, _⟩ | ⟨hk, _⟩ | ⟨hk, _⟩ | ⟨hk, _, _, _, _, hn⟩
  all_goals
    simp only at hk
    subst hk
  · refine (near_1 yy y m d v n w hT).mono ?_
    rintro e w' ⟨rfl, hB⟩
    exact ⟨⟨_, _, _, _, _, _, by rw [yd_zero, List.append_nil]; simp [hoDays], rfl⟩, hB⟩
  · refine (near_2 yy y m d v n w hT).mono ?_
    rintro e w' ⟨rfl, hB⟩
    exact ⟨⟨_, _, _, _, _, _, by rw [yd_zero, List.append_nil]; simp [hoDays], rfl⟩, hB⟩
  · by_cases c : NthIs yy m v n
    · refine (near_3yes yy y m d v n c w hT).mono ?_
      rintro e w' ⟨rfl, hB⟩
      exact ⟨⟨_, _, _, _, _, _, by rw [yd_zero, List.append_nil, yd_nth h0 h1 c]; simp [hoDays, wd, c], rfl⟩, hB⟩
    · refine (near_3no yy y m d v n c w hT).mono ?_
      rintro e w' ⟨rfl, hB⟩
      exact ⟨⟨_, _, _, _, _, _, by rw [yd_zero, List.append_nil]; simp [hoDays, wd, c], rfl⟩, hB⟩
  · refine (near_4 yy y m d v n h0 h1 hn w hT).mono ?_
    rintro e w' ⟨⟨Y1, M1, D1, Y2, M2, D2, e1, e2, rfl⟩, hB⟩
    exact ⟨⟨_, _, _, _, _, _, by rw [e1, e2]; simp [hoDays], rfl⟩, hB⟩
end Go.Proofs.YtbffmobjiiicoaaDoor.H8
end
section
/- Seasons: the map of their beginnings, the latest one, and going back day by day. -/
set_option linter.unusedVariables false
namespace Go.Proofs.YtbffmobjiiicoaaDoor.H8
open Go.RowKit Go.Maps
def bg (S : Nat → Se) (i : Nat) : Int := bgn (S i).m (S i).d
def Bg {H : Type} (S : Nat → Se) : Nat → DataW H
  | 0 => .map []
  | k + 1 => (Bg S k).put (.int .i64 (bg S k)) (.lit (.int .i64 (S k).n))
theorem isKey (x : Int) : WideAt.IsKeyLit (Lit.int .i64 x) := trivial
theorem Bg_tidy {H : Type} (S : Nat → Se) : ∀ k : Nat, Tidy (Bg (H := H) S k)
  | 0 => tidy_empty
  | k + 1 => (Bg_tidy S k).put (isKey _) _
theorem key_ne {a b : Int} (h : a ≠ b) : Lit.int .i64 a ≠ Lit.int .i64 b := fun e => h (by cases e; rfl)
theorem has_Bg {H : Type} (S : Nat → Se) (b : Int) : ∀ k : Nat, has (Bg (H := H) S k) (.int .i64 b) = true ↔ ∃ i, i < k ∧ bg S i = b
  | 0 => by simp [Bg, has]
  | k + 1 => by
    rw [Bg]
    by_cases e : b = bg S k
    · rw [e, has_put_same (Bg_tidy S k).isMap (isKey _)]
      simp only [true_iff]
      exact ⟨k, by omega, rfl⟩
    · rw [has_put_other (key_ne e), has_Bg S b k]
      constructor
      · rintro ⟨i, hi, h⟩; exact ⟨i, by omega, h⟩
      · rintro ⟨i, hi, h⟩
        rcases Nat.lt_succ_iff_lt_or_eq.1 hi with hl | rfl
        · exact ⟨i, hl, h⟩
        · exact absurd h.symm e
theorem size_Bg {H : Type} (S : Nat → Se) : ∀ k : Nat, size (Bg (H := H) S k) ≤ k ∧ (size (Bg (H := H) S k) = k ↔ ∀ i, i < k → ∀ j, j < i → bg S j ≠ bg S i)
  | 0 => ⟨Nat.zero_le _, by simp [Bg, size]⟩
  | k + 1 => by
    obtain ⟨h1, h2⟩ := size_Bg (H := H) S k
    rw [Bg, size_put (Bg_tidy S k)]
    cases hh : has (Bg (H := H) S k) (.int .i64 (bg S k))
    · rw [if_neg (by simp)]
      have hno : ∀ j, j < k → bg S j ≠ bg S k := fun j hj e => by
        rw [(has_Bg S (bg S k) k).2 ⟨j, hj, e⟩] at hh; cases hh
      refine ⟨by omega, ?_⟩
      rw [show (size (Bg (H := H) S k) + 1 = k + 1) ↔ size (Bg (H := H) S k) = k from ⟨by omega, by omega⟩, h2]
      constructor
      · intro h i hi j hj
        rcases Nat.lt_succ_iff_lt_or_eq.1 hi with hl | rfl
        · exact h i hl j hj
        · exact hno j hj
      · exact fun h i hi j hj => h i (by omega) j hj
    · rw [if_pos rfl]
      refine ⟨by omega, ⟨fun e => by omega, fun h => ?_⟩⟩
      obtain ⟨i, hi, e⟩ := (has_Bg S (bg S k) k).1 hh
      exact absurd e (h k (by omega) i hi)
theorem at_Bg {H : Type} (S : Nat → Se) (z : DataW H) {k : Nat} : ∀ {i : Nat}, i < k → (∀ a, a < k → ∀ c, c < a → bg S c ≠ bg S a) → (Bg S k).atKey (.int .i64 (bg S i)) z = .lit (.int .i64 (S i).n) := by
  induction k with
  | zero => intro i h; exact absurd h (Nat.not_lt_zero _)
  | succ k ih =>
    intro i hi h
    rw [Bg]
    rcases Nat.lt_succ_iff_lt_or_eq.1 hi with hl | rfl
    · rw [atKey_put_other (key_ne (h k (by omega) i hl)), ih hl (fun a ha c hc => h a (by omega) c hc)]
    · rw [atKey_put_same (Bg_tidy S i).isMap (isKey _)]
theorem apart_iff {S : Nat → Se} {sl : Nat} (hs : ∀ i, i < sl → SeIs (S i)) : Apart S sl ↔ ∀ i, i < sl → ∀ j, j < i → bg S j ≠ bg S i := by
  constructor
  · intro h i hi j hj e
    have := bgn_inj hs h (show j < sl by omega) hi e
    omega
  · intro h i hi j hj ⟨e1, e2⟩
    exact h i hi j hj (by unfold bg; rw [e1, e2])
theorem bg_bounds {S : Nat → Se} {sl : Nat} (hs : ∀ i, i < sl → SeIs (S i)) {i : Nat} (hi : i < sl) : 101 ≤ bg S i ∧ bg S i ≤ 1231 := by
  have := se_bounds (hs i hi)
  unfold bg bgn
  omega
/-- What the loop of numberAt has found. -/
def NumI (S : Nat → Se) (sl : Nat) (now : Int) (left : Lit → Bool) (lt la : Int) : Prop :=
  (∀ i, i < sl → left (.int .i64 (bg S i)) = false → bg S i ≤ la ∧ (bg S i ≤ now → bg S i ≤ lt)) ∧ (la = 0 ∨ ∃ i, i < sl ∧ bg S i = la) ∧ (lt = 0 ∨ ∃ i, i < sl ∧ bg S i = lt ∧ lt ≤ now)
theorem NumI.start {H : Type} {S : Nat → Se} {sl : Nat} {now : Int} : NumI S sl now (Maps.has (Bg (H := H) S sl)) 0 0 :=
  ⟨fun i hi h => (by rw [(has_Bg S (bg S i) sl).2 ⟨i, hi, rfl⟩] at h; cases h), .inl rfl, .inl rfl⟩
theorem NumI.step {S : Nat → Se} {sl : Nat} {now x lt la lt' la' : Int} {left : Lit → Bool} (h : NumI S sl now left lt la) (hx : ∃ i, i < sl ∧ bg S i = x) (ea : la' = if la < x then x else la) (et : lt' = if x ≤ now then (if lt < x then x else lt) else lt) :
    NumI S sl now (fun z => left z && !z.sameKey (.int .i64 x)) lt' la' := by
  obtain ⟨h1, h2, h3⟩ := h
  refine ⟨fun i hi hl => ?_, ?_, ?_⟩
  · have hor : left (.int .i64 (bg S i)) = false ∨ bg S i = x := by
      by_cases e : bg S i = x
      · exact .inr e
      · have hl2 : (left (.int .i64 (bg S i)) && !(Lit.int .i64 (bg S i)).sameKey (.int .i64 x)) = false := hl
        rw [sameKey_ne (key_ne e)] at hl2
        exact .inl (by simpa using hl2)
    subst ea et
    rcases hor with hf | e
    · obtain ⟨a, b⟩ := h1 i hi hf
      refine ⟨by split <;> omega, fun hn => ?_⟩
      have := b hn
      split
      · split <;> omega
      · omega
    · rw [e]
      refine ⟨by split <;> omega, fun hn => ?_⟩
      rw [if_pos hn]
      split <;> omega
  · subst ea
    split
    · exact .inr hx
    · exact h2
  · subst et
    split
    · rename_i hn
      split
      · obtain ⟨i, hi, e⟩ := hx
        exact .inr ⟨i, hi, e, hn⟩
      · exact h3
    · exact h3
theorem NumI.season {H : Type} {S : Nat → Se} {sl : Nat} {now lt la c : Int} {left : Lit → Bool} (hs : ∀ i, i < sl → SeIs (S i)) (ha : Apart S sl) (h : NumI S sl now left lt la) (hl : ∀ kl, left kl = false)
    (hc : (Bg (H := H) S sl).atKey (.int .i64 (if lt = 0 then la else lt)) (.lit (.int .i64 0)) = .lit (.int .i64 c)) : SeaIs S sl now c := by
  obtain ⟨h1, h2, h3⟩ := h
  have hd := (apart_iff hs).1 ha
  by_cases h0 : sl = 0
  · left
    refine ⟨h0, ?_⟩
    subst h0
    have e : (Bg (H := H) S 0).atKey (.int .i64 (if lt = 0 then la else lt)) (.lit (.int .i64 0)) = .lit (.int .i64 0) := rfl
    rw [e] at hc
    simp at hc
    exact hc.symm
  · right
    have b0 := bg_bounds hs (show 0 < sl by omega)
    have l0 := (h1 0 (by omega) (hl _)).1
    obtain ⟨ia, hia, ea⟩ : ∃ i, i < sl ∧ bg S i = la := by
      rcases h2 with h | h
      · omega
      · exact h
    rcases h3 with rfl | ⟨i, hi, e, hn⟩
    · rw [if_pos rfl, ← ea, at_Bg S _ hia hd] at hc
      have hcn : (S ia).n = c := by simpa using hc
      have hno : ∀ j, j < sl → now < bg S j := fun j hj => by
        have b := bg_bounds hs hj
        by_cases q : bg S j ≤ now
        · have := (h1 j hj (hl _)).2 q; omega
        · omega
      exact ⟨ia, hia, hcn, .inr ⟨hno, fun j hj => by have := (h1 j hj (hl _)).1; unfold bg at this ea; omega⟩⟩
    · have hp := bg_bounds hs hi
      rw [if_neg (by omega), ← e, at_Bg S _ hi hd] at hc
      have hcn : (S i).n = c := by simpa using hc
      refine ⟨i, hi, hcn, .inl ⟨by unfold bg at e; omega, fun j hj hq => ?_⟩⟩
      have := (h1 j hj (hl _)).2 hq
      unfold bg at this e
      omega
/-! Going back day by day. -/
def pos (m d : Int) : Int := (m - 1) * 31 + d
/-- Where the document stands after n days. -/
def Back (S : Nat → Se) (sl : Nat) (now : Int) (n : Nat) (y m d : Int) : Prop :=
  (1 ≤ m ∧ m ≤ 12) ∧ (1 ≤ d ∧ d ≤ dlen y m) ∧ (sl = 0 ∨ (bgn m d ≤ now ∧ (∀ j, j < sl → bg S j ≤ now → bg S j ≤ bgn m d) ∧ n + pos m d ≤ 372) ∨ ((∀ j, j < sl → now < bg S j) ∧ (∀ j, j < sl → bg S j ≤ bgn m d) ∧ n + pos m d ≤ 744))
theorem Back.start {S : Nat → Se} {sl : Nat} {y m d : Int} (h : May y m d) : Back S sl (bgn m d) 0 y m d := by
  have := dlen_bounds (y := y) (m := m)
  obtain ⟨h1, h2, h3, h4, h5, h6⟩ := h
  exact ⟨⟨h3, h4⟩, ⟨h5, h6⟩, .inr (.inl ⟨Int.le_refl _, fun j hj h => h, by unfold pos; omega⟩)⟩
theorem Back.found {S : Nat → Se} {sl n : Nat} {now y m d : Int} (h : Back S sl now n y m d) {i : Nat} (hi : i < sl) (e1 : (S i).m = m) (e2 : (S i).d = d) : SeaIs S sl now (S i).n := by
  obtain ⟨h1, h2, h3⟩ := h
  refine .inr ⟨i, hi, rfl, ?_⟩
  rw [e1, e2]
  rcases h3 with h | ⟨a, b, c⟩ | ⟨a, b, c⟩
  · omega
  · exact .inl ⟨a, b⟩
  · exact .inr ⟨a, b⟩
theorem Back.none {S : Nat → Se} {sl n : Nat} {now y m d : Int} (h : Back S sl now n y m d) (hn : 800 ≤ n) : SeaIs S sl now 0 := by
  obtain ⟨h1, h2, h3⟩ := h
  rcases h3 with h | ⟨a, b, c⟩ | ⟨a, b, c⟩
  · exact .inl ⟨h, rfl⟩
  · unfold pos at c; omega
  · unfold pos at c; omega
theorem no_2001 {m : Int} (h1 : 1 ≤ m) (h2 : m ≤ 12) (y : Int) : dlen 2001 m ≤ dlen y m := by
  have : lp 2001 = 0 := by decide
  rw [dlen_in h1 h2, dlen_in h1 h2, this]
  have := lp_le y
  split <;> omega
/-- No season begins on the day: those that begin no later begin earlier. -/
theorem below_of {S : Nat → Se} {sl : Nat} (hs : ∀ i, i < sl → SeIs (S i)) {y m d : Int} (hm : 1 ≤ m ∧ m ≤ 12) (hd : 1 ≤ d ∧ d ≤ dlen y m) (hno : ∀ i, i < sl → ¬ ((S i).m = m ∧ (S i).d = d)) {j : Nat} (hj : j < sl) (hb : bg S j ≤ bgn m d) :
    (1 < d → bg S j ≤ bgn m (d - 1)) ∧ (d = 1 → 1 < m → ∀ y', bg S j ≤ bgn (m - 1) (dlen y' (m - 1))) ∧ (d = 1 → m ≠ 1) := by
  have b := se_bounds (hs j hj)
  have hl := dlen_bounds (y := y) (m := m)
  have hn := hno j hj
  have hdl := (hs j hj).2.2.2.2.2.2
  unfold bg bgn at *
  refine ⟨fun h => by omega, fun h h' y' => ?_, fun h h' => ?_⟩
  · have h28 := dlen_ge (y := y') (m := m - 1) (by omega) (by omega)
    by_cases e : (S j).m = m - 1
    · rw [e] at hdl ⊢
      have := no_2001 (m := m - 1) (by omega) (by omega) y'
      omega
    · omega
  · omega
theorem Back.day {S : Nat → Se} {sl n : Nat} {now y m d : Int} (hs : ∀ i, i < sl → SeIs (S i)) (h : Back S sl now n y m d) (hno : ∀ i, i < sl → ¬ ((S i).m = m ∧ (S i).d = d)) (hd : 1 < d) : Back S sl now (n + 1) y m (d - 1) := by
  obtain ⟨h1, h2, h3⟩ := h
  refine ⟨h1, by omega, ?_⟩
  rcases h3 with h | ⟨a, b, c⟩ | ⟨a, b, c⟩
  · exact .inl h
  · exact .inr (.inl ⟨by unfold bgn at *; omega, fun j hj hq => (below_of hs h1 h2 hno hj (b j hj hq)).1 hd, by unfold pos at *; omega⟩)
  · exact .inr (.inr ⟨a, fun j hj => (below_of hs h1 h2 hno hj (b j hj)).1 hd, by unfold pos at *; omega⟩)
theorem Back.month {S : Nat → Se} {sl n : Nat} {now y m : Int} (hs : ∀ i, i < sl → SeIs (S i)) (h : Back S sl now n y m 1) (hno : ∀ i, i < sl → ¬ ((S i).m = m ∧ (S i).d = 1)) (hm : 1 < m) : Back S sl now (n + 1) y (m - 1) (dlen y (m - 1)) := by
  obtain ⟨h1, h2, h3⟩ := h
  have h28 := dlen_ge (y := y) (m := m - 1) (by omega) (by omega)
  have h31 := dlen_bounds (y := y) (m := m - 1)
  refine ⟨by omega, by omega, ?_⟩
  rcases h3 with h | ⟨a, b, c⟩ | ⟨a, b, c⟩
  · exact .inl h
  · exact .inr (.inl ⟨by unfold bgn at *; omega, fun j hj hq => (below_of hs h1 h2 hno hj (b j hj hq)).2.1 rfl hm y, by unfold pos at *; omega⟩)
  · exact .inr (.inr ⟨a, fun j hj => (below_of hs h1 h2 hno hj (b j hj)).2.1 rfl hm y, by unfold pos at *; omega⟩)
theorem dlen_dec (y : Int) : dlen y 12 = 31 := by simp [dlen, mlen]
theorem Back.year {S : Nat → Se} {sl n : Nat} {now y : Int} (hs : ∀ i, i < sl → SeIs (S i)) (h : Back S sl now n y 1 1) (hno : ∀ i, i < sl → ¬ ((S i).m = 1 ∧ (S i).d = 1)) : Back S sl now (n + 1) (y - 1) 12 (dlen (y - 1) 12) := by
  obtain ⟨h1, h2, h3⟩ := h
  rw [Back, dlen_dec]
  refine ⟨by omega, by omega, ?_⟩
  rcases h3 with h | ⟨a, b, c⟩ | ⟨a, b, c⟩
  · exact .inl h
  · refine .inr (.inr ⟨fun j hj => ?_, fun j hj => ?_, by unfold pos at *; omega⟩)
    · by_cases q : bg S j ≤ now
      · exact absurd rfl ((below_of hs h1 h2 hno hj (b j hj q)).2.2 rfl)
      · omega
    · have := bg_bounds hs hj
      unfold bgn
      omega
  · by_cases h0 : sl = 0
    · exact .inl h0
    · exact absurd rfl ((below_of hs h1 h2 hno (show 0 < sl by omega) (b 0 (by omega))).2.2 rfl)
end Go.Proofs.YtbffmobjiiicoaaDoor.H8
end
section
/- Contracts of beginsOf and numberAt. -/
set_option linter.unusedVariables false
set_option linter.unusedSimpArgs false
namespace Go.Proofs.YtbffmobjiiicoaaDoor.H8
open Go.RowKit Go.Shelf Go.Maps
theorem lawB : Keyed Tryd.prog 121 := int_keyed Tryd.underlying121
theorem zeroI (w : World) : (zeroValue 3).run Tryd.prog w = .ok (.int .i64 0) w := by kernel_rfl
/-- The seasons lie from a on. -/
def SeAt (W : World) (b o : Nat) (s : Se) : Prop :=
  W.cell? ⟨b, o, none⟩ = some (.int .i64 s.n) ∧ W.cell? ⟨b, o + 1, none⟩ = some (.int .i64 s.m) ∧ W.cell? ⟨b, o + 2, none⟩ = some (.int .i64 s.d)
def SeasAt (B : Nat) (W : World) (a : Option Addr) (len : Nat) (S : Nat → Se) : Prop :=
  ∀ i, i < len → ∃ b o, a = some ⟨b, o, none⟩ ∧ b < B ∧ SeAt W b (o + i * 3) (S i)
theorem SeasAt.next {B n : Nat} {W X : World} {a : Option Addr} {len : Nat} {S : Nat → Se} (h : SeasAt B W a len S) (hB : Below n W X) (hn : B ≤ n) (hs : n ≤ W.heap.size) : SeasAt B X a len S := by
  intro i hi
  obtain ⟨b, o, e, hb, h0, h1, h2⟩ := h i hi
  have hx : ∀ k, X.cell? ⟨b, k, none⟩ = W.cell? ⟨b, k, none⟩ := fun k => hB.cell (p := ⟨b, k, none⟩) (by show b < n; omega)
  exact ⟨b, o, e, hb, (hx _).trans h0, (hx _).trans h1, (hx _).trans h2⟩
theorem SeasAt.mono {B B' : Nat} {W : World} {a : Option Addr} {len : Nat} {S : Nat → Se} (h : SeasAt B W a len S) (hB : B ≤ B') : SeasAt B' W a len S := fun i hi => by
  obtain ⟨b, o, e, hb, k⟩ := h i hi; exact ⟨b, o, e, by omega, k⟩
def HoAt (W : World) (b o : Nat) (h : Ho) : Prop :=
  W.cell? ⟨b, o, none⟩ = some (.int .i64 h.k) ∧ W.cell? ⟨b, o + 1, none⟩ = some (.int .i64 h.y) ∧ W.cell? ⟨b, o + 2, none⟩ = some (.int .i64 h.m) ∧ W.cell? ⟨b, o + 3, none⟩ = some (.int .i64 h.d) ∧ W.cell? ⟨b, o + 4, none⟩ = some (.int .i64 h.w) ∧ W.cell? ⟨b, o + 5, none⟩ = some (.int .i64 h.n)
def HosAt (B : Nat) (W : World) (a : Option Addr) (len : Nat) (H : Nat → Ho) : Prop :=
  ∀ i, i < len → ∃ b o, a = some ⟨b, o, none⟩ ∧ b < B ∧ HoAt W b (o + i * 6) (H i)
theorem HosAt.next {B n : Nat} {W X : World} {a : Option Addr} {len : Nat} {H : Nat → Ho} (h : HosAt B W a len H) (hB : Below n W X) (hn : B ≤ n) (hs : n ≤ W.heap.size) : HosAt B X a len H := by
  intro i hi
  obtain ⟨b, o, e, hb, h0, h1, h2, h3, h4, h5⟩ := h i hi
  have hx : ∀ k, X.cell? ⟨b, k, none⟩ = W.cell? ⟨b, k, none⟩ := fun k => hB.cell (p := ⟨b, k, none⟩) (by show b < n; omega)
  exact ⟨b, o, e, hb, (hx _).trans h0, (hx _).trans h1, (hx _).trans h2, (hx _).trans h3, (hx _).trans h4, (hx _).trans h5⟩
theorem HosAt.mono {B B' : Nat} {W : World} {a : Option Addr} {len : Nat} {H : Nat → Ho} (h : HosAt B W a len H) (hB : B ≤ B') : HosAt B' W a len H := fun i hi => by
  obtain ⟨b, o, e, hb, k⟩ := h i hi; exact ⟨b, o, e, by omega, k⟩
abbrev calV (ha : Option Addr) (hl hc : Nat) (sa : Option Addr) (sl sc : Nat) : Value := .agg #[.slice ha hl hc, .slice sa sl sc]
set_option maxRecDepth 100000 in
set_option maxHeartbeats 2000000 in
theorem begins_any {H : Type} (ha : Option Addr) (hl hc : Nat) (sa : Option Addr) (sl sc : Nat) (S : Nat → Se) (w : World) (hS : SeasAt w.heap.size w sa sl S) (hs : ∀ i, i < sl → SeIs (S i)) (h12 : sl ≤ 12) :
    Calls Tryd.prog 50 #[calV ha hl hc sa sl sc] w fun e w' => e = .returned (.map (some (w.heap.size + 1))) ∧ w'.ownsMap Tryd.prog 121 (plainElem Tryd.prog 3) (w.heap.size + 1) sl (Bg (H := H) S sl) ∧ Below w.heap.size w w' := by
  have hmm := @run_makeMap Tryd.prog
  have HS := Lib.hid hS
  have HI := Lib.hid hs
  clear hS hs
  go_enter Tryd.func50, Tryd.ntmps50
  go_wp2
  go_loopw [10] (fun i wr => ∃ k : Nat, k ≤ sl ∧ i = .int .i64 k ∧ wr.ownsMap Tryd.prog 121 (plainElem Tryd.prog 3) (w.heap.size + 1) k (Bg (H := H) S k) ∧ Below w.heap.size w wr)
    (fun i _ => sl - (intOf i).toNat)
  case atStart =>
    have e1 : w.heap.size + 1 = (w.alloc (.cells #[.slice ha hl hc, .slice sa sl sc] 33)).heap.size := by rw [World.size_alloc]
    refine ⟨0, Nat.zero_le _, rfl, ?_, ((Below.refl _ _).alloc (Nat.le_refl _) _).alloc (by simp) _⟩
    rw [e1]
    exact World.ownsMap_made _ _ _ _
  case round =>
    obtain ⟨k, hk, rfl, hown, hnx⟩ := hrel
    by_cases hlt : k < sl
    · have hlti : (k : Int) < sl := by omega
      obtain ⟨b, o, rfl, hb, h0, h1, h2⟩ := HS.out.next hnx (Nat.le_refl _) (Nat.le_refl _) k hlt
      have hbd := se_bounds (HI.out k hlt)
      have hnb := (HI.out k hlt).1
      have hst : Bg (H := H) S (k + 1) = (Bg S k).put (.int .i64 (bg S k)) (.lit (.int .i64 (S k).n)) := rfl
      unfold bg at hst
      obtain ⟨s, hsk⟩ : ∃ s, s = S k := ⟨_, rfl⟩
      rw [← hsk] at h0 h1 h2 hbd hnb hst
      obtain ⟨sn, sm, sd⟩ := s
      simp only [] at h0 h1 h2 hbd hnb hst
      obtain ⟨hm, hd⟩ := hbd
      have HST := Lib.hid hst
      clear hst hsk
      have HO := Lib.hid hown
      have HN := Lib.hid hnx
      clear hown hnx
      go_wp2_with fail
      have hmx : Tryd.prog.follows .mixedOrders = true := by kernel_rfl
      obtain ⟨Y, hY⟩ : ∃ Y, (wr.alloc (.cells #[.int .i64 sn, .int .i64 sm, .int .i64 sd] 135)).drew = Y := ⟨_, rfl⟩
      have hy0 : Y.heap[wr.heap.size]? = some (.cells #[.int .i64 sn, .int .i64 sm, .int .i64 sd] 135) := by rw [← hY]; exact heap_alloc_new wr _
      have hyo : Y.ownsMap Tryd.prog 121 (plainElem Tryd.prog 3) (w.heap.size + 1) k (Bg (H := H) S k) := by rw [← hY]; exact (HO.out.alloc _).drew
      have hyb : Below w.heap.size w Y := by rw [← hY]; exact (HN.out.alloc HN.out.size _).drew
      have n0 : Y.cell? ⟨wr.heap.size, 0, none⟩ = some (.int .i64 sn) := cell_of_row Y _ 0 _ _ _ hy0
      have n1 : Y.cell? ⟨wr.heap.size, 1, none⟩ = some (.int .i64 sm) := cell_of_row Y _ 1 _ _ _ hy0
      have n2 : Y.cell? ⟨wr.heap.size, 2, none⟩ = some (.int .i64 sd) := cell_of_row Y _ 2 _ _ _ hy0
      refine wp_region_still_tail 8 hmx (by kernel_rfl) ?_
      change wpStill _ _ (wr.alloc (.cells #[.int .i64 sn, .int .i64 sm, .int .i64 sd] 135)).drew _ _ _
      rw [hY]
      clear hy0
      simp only [List.take_succ_cons, List.take_zero, List.drop_succ_cons, List.drop_zero]
      still_step
      still_step
      still_step
      still_step
      still_step
      still_call ((beginOn_any sm sd hm hd Y).mono fun _ _ h => ⟨h.1, h.2.symm⟩)
      repeat still_step
      refine wpStill_nil ?_
      change wpList _ _ _ _ _ (wr.alloc (.cells #[.int .i64 sn, .int .i64 sm, .int .i64 sd] 135)).drew
      rw [hY]
      clear hY
      have hkey : keyOf Tryd.prog 121 (.int .i64 (bgn sm sd)) = some (.int .i64 (bgn sm sd)) := keyOf_int_mk Tryd.underlying121 (WalkArith.wf_i64 (by unfold bgn; omega))
      refine wpList_mapUpdate_own _ rfl _ _ _ 119 rfl 121 3 lawB Tryd.underlying119 _ (w.heap.size + 1) k _ rfl hyo (by unfold maxLen; omega) _ _ _ rfl rfl hkey _ [] (plainElem_int Tryd.underlying3 (WalkArith.wf_i64 (by omega))) ?_
      intro w1 hown1 hgrow1
      rw [← HST.out] at hown1
      have hb1 := hyb.grown hgrow1 hyb.size (fun j hj => by cases hj; omega)
      have HO1 := Lib.hid hown1
      have HB1 := Lib.hid hb1
      clear hown1 hgrow1 hb1 hyo hyb n0 n1 n2 HO HN
      go_wp2
      go_roundw
      case rel => exact ⟨k + 1, by omega, by go_num, HO1.out, HB1.out⟩
      case measure => first | (simp [intOf]; done) | (simp [intOf]; omega)
    · have hke : k = sl := by omega
      subst hke
      have hnl : ¬ ((k : Int) < k) := by omega
      have HO := Lib.hid hown
      have HN := Lib.hid hnx
      clear hown hnx
      go_wp2
      go_ret
      exact ⟨rfl, HO.out, HN.out⟩
theorem has_of_at {H : Type} {S : Nat → Se} {sl : Nat} {x c : Int} (h : ∀ zd, (Bg (H := H) S sl).atKey (.int .i64 x) zd = .lit (.int .i64 c)) : ∃ i, i < sl ∧ bg S i = x :=
  (has_Bg S x sl).1 (has_true_of_atKey h)
set_option maxRecDepth 100000 in
set_option maxHeartbeats 2000000 in
theorem numberAt_any {H : Type} (B : Nat) (S : Nat → Se) (sl : Nat) (now : Int) (w : World) (hown : w.ownsMap Tryd.prog 121 (plainElem Tryd.prog 3) B sl (Bg (H := H) S sl)) (hs : ∀ i, i < sl → SeIs (S i)) (ha : Apart S sl) :
    Calls Tryd.prog 49 #[.map (some B), .int .i64 now] w fun e w' => (∃ r : Int, SeaIs S sl now r ∧ e = .returned (.int .i64 r)) ∧ Below w.heap.size w w' := by
  have HI := Lib.hid hs
  have HA := Lib.hid ha
  clear hs ha
  go_enter Tryd.func49, Tryd.ntmps49
  go_wp2_with (first
    | (at_range; refine wpList_range_own _ rfl _ 119 rfl 121 3 lawB Tryd.underlying119 _ B sl _ rfl hown ?_; intro w0 hrg0 hg0 hs0)
    | go_in)
  go_frame
  go_loopw [5, 6] (fun x5 x6 wr => ∃ (left : Lit → Bool) (cnt : Nat) (lt la : Int), x5 = .int .i64 lt ∧ x6 = .int .i64 la ∧ NumI S sl now left lt la ∧ wr.ranges Tryd.prog 121 (plainElem Tryd.prog 3) B w.heap.size sl (Bg (H := H) S sl) left cnt ∧ Below w.heap.size w wr)
    (fun _ _ wr => wr.rangeLeft B w.heap.size)
  case atStart => exact ⟨_, _, 0, 0, rfl, rfl, NumI.start, hrg0, (Below.refl _ w).grown hg0 (Nat.le_refl _) (fun j hj => by cases hj)⟩
  case round =>
    obtain ⟨left, cnt, lt, la, rfl, rfl, hN, hrg, hb⟩ := hrel
    have HN := Lib.hid hN
    have HB := Lib.hid hb
    clear hN hb hrg0 hg0 hs0 hown
    go_wp2_with (first
      | (at_next; refine wpList_next_ranges_ii _ rfl _ rfl 121 3 .i64 .i64 lawB Tryd.underlying121 Tryd.underlying3 B w.heap.size sl _ _ _ rfl hrg ?_ ?_)
      | go_in)
    · intro _ hl0
      have ho := hrg.owns
      have HL := Lib.hid hl0
      clear hl0 hrg
      have hbl : 0 ≤ la ∧ la ≤ 1231 := by
        rcases HN.out.2.1 with h | ⟨i, hi, e⟩
        · omega
        · have := bg_bounds HI.out hi; omega
      have hbt : 0 ≤ lt ∧ lt ≤ 1231 := by
        rcases HN.out.2.2 with h | ⟨i, hi, e, _⟩
        · omega
        · have := bg_bounds HI.out hi; omega
      by_cases h0 : lt = 0
      · subst h0
        have hkey : keyOf Tryd.prog 121 (.int .i64 la) = some (.int .i64 la) := keyOf_int_mk Tryd.underlying121 (WalkArith.wf_i64 (by omega))
        clear hbl hbt
        go_wp2_with (first
          | (at_lookup; refine wpList_lookup_own_int _ rfl _ _ 119 rfl 121 3 .i64 lawB Tryd.underlying119 Tryd.underlying3 (zeroI _) B sl _ rfl ho _ _ rfl hkey ?_; intro c hat hwc)
          | go_in)
        go_ret
        exact ⟨⟨c, NumI.season HI.out HA.out HN.out HL.out (by rw [if_pos rfl]; exact hat), rfl⟩, HB.out⟩
      · have H0 := Lib.hid h0
        have hkey : keyOf Tryd.prog 121 (.int .i64 lt) = some (.int .i64 lt) := keyOf_int_mk Tryd.underlying121 (WalkArith.wf_i64 (by omega))
        clear hbl hbt
        go_wp2_with (first
          | (at_lookup; refine wpList_lookup_own_int _ rfl _ _ 119 rfl 121 3 .i64 lawB Tryd.underlying119 Tryd.underlying3 (zeroI _) B sl _ rfl ho _ _ rfl hkey ?_; intro c hat hwc)
          | go_in)
        go_ret
        exact ⟨⟨c, NumI.season HI.out HA.out HN.out HL.out (by rw [if_neg H0.out]; exact hat), rfl⟩, HB.out⟩
    · intro x c w1 cnt1 hwx hwc hlx hat hrg1 hlt hg1 hs1 hen
      have hx := has_of_at hat
      have HX := Lib.hid hx
      have hb1 := HB.out.grown hg1 HB.out.size (fun j hj => by cases hj; exact Nat.le_refl _)
      clear hx hat hwx hwc hlx
      by_cases c1 : la < x <;> by_cases c2 : x ≤ now <;> by_cases c3 : lt < x
      all_goals
        go_wp2
        refine ⟨⟨_, cnt1, _, _, rfl, rfl, NumI.step HN.out HX.out (by simp [c1]) (by simp [c2, c3]), hrg1, hb1⟩, ?_⟩
        rw [hrg1.left_eq, hrg.left_eq]
        exact hlt
end Go.Proofs.YtbffmobjiiicoaaDoor.H8
end
section
/- The iterator holidaysIn. -/
set_option linter.unusedVariables false
set_option linter.unusedSimpArgs false
namespace Go.Proofs.YtbffmobjiiicoaaDoor.H8
open Go.RowKit Go.Shelf
attribute [local go_sem] Oper.semAt_some
abbrev DayE := { x : Int // 0 ≤ x ∧ x ≤ 2932896 }
def encE (x : DayE) : Array Value := #[.int .i64 x.1]
def toE (xs : List Int) : List DayE := xs.filterMap fun x => if h : 0 ≤ x ∧ x ≤ 2932896 then some ⟨x, h⟩ else none
theorem toE_nil : toE [] = [] := rfl
theorem toE_append (a b : List Int) : toE (a ++ b) = toE a ++ toE b := by simp [toE, List.filterMap_append]
theorem toE_one {x : Int} (h : 0 ≤ x ∧ x ≤ 2932896) : toE [x] = [⟨x, h⟩] := by simp [toE, h]
theorem toE_map : ∀ {xs : List Int}, (∀ x ∈ xs, 0 ≤ x ∧ x ≤ 2932896) → (toE xs).map Subtype.val = xs
  | [], _ => rfl
  | x :: r, h => by
    rw [show x :: r = [x] ++ r from rfl, toE_append, toE_one (h x (by simp)), List.map_append, toE_map (fun y hy => h y (by simp [hy]))]
    rfl
def hdL (H : Nat → Ho) (y : Int) (k : Nat) : List DayE := toE (hds H y k)
theorem hdL_succ (H : Nat → Ho) (y : Int) (k : Nat) : hdL H y (k + 1) = hdL H y k ++ toE (hoDays (H k) y) := by simp [hdL, hds, toE_append]
theorem hdL_prefix (H : Nat → Ho) (y : Int) {k n : Nat} (h : k ≤ n) : hdL H y k <+: hdL H y n := by
  induction n with
  | zero => obtain rfl : k = 0 := by omega
            exact List.prefix_refl _
  | succ n ih =>
    rcases Nat.lt_or_ge n k with hl | hl
    · obtain rfl : k = n + 1 := by omega
      exact List.prefix_refl _
    · exact (ih hl).trans (by rw [hdL_succ]; exact List.prefix_append _ _)
theorem hdL_map {H : Nat → Ho} {y : Int} (h0 : 1970 ≤ y) (h1 : y ≤ 9999) (k : Nat) : (hdL H y k).map Subtype.val = hds H y k :=
  toE_map fun x hx => by
    have a := hds_in h0 h1 hx
    have b := year_days h0 h1
    omega
theorem yd_yes {y Y M D : Int} (h : May Y M D) (e : Y = y) : yd y Y M D = [dayOf Y M D] := by unfold yd; rw [if_pos ⟨h, e⟩]
theorem yd_no {y Y M D : Int} (h : ¬ (May Y M D ∧ Y = y)) : yd y Y M D = [] := by unfold yd; rw [if_neg h]
theorem index_0 (a b c d e f : Int) (w : World) : (Instr.index 173 (.agg (hoC a b c d e f)) (.int .i64 0)).run Tryd.prog w = .ok (dateV a b c) w := by
  have h := Tryd.underlying173
  simp [Instr.index, go_sem, run_underlying h]
theorem index_1 (a b c d e f : Int) (w : World) : (Instr.index 173 (.agg (hoC a b c d e f)) (.int .i64 1)).run Tryd.prog w = .ok (dateV d e f) w := by
  have h := Tryd.underlying173
  simp [Instr.index, go_sem, run_underlying h]
set_option maxRecDepth 100000 in
set_option maxHeartbeats 4000000 in
theorem hol1_in (n : Nat) (hn : 1 ≤ n) (l Bc By n₀ : Nat) (ha : Option Addr) (hl hc : Nat) (sa : Option Addr) (sl sc : Nat) (H : Nat → Ho) (y : Int) (hlm : hl ≤ 100) (hho : ∀ i, i < hl → HoIs (H i)) (hy0 : 1970 ≤ y) (hy1 : y ≤ 9999) (hBc : Bc < n₀) (hBy : By < n₀) (h0n : 2 < n₀) (J Jx : List DayE → World → Prop)
    (hY : ∀ pre x W, J pre W → pre.length < (hdL H y hl).length → YieldAt Fence.wide (n - 1) Tryd.prog l #[.int .i64 x.1] W fun e W' =>
      (e = .returned (.bool true) ∧ J (pre ++ [x]) W' ∧ Below n₀ W W') ∨ (e = .returned (.bool false) ∧ Jx (pre ++ [x]) W'))
    (W : World) (hJ : AbidesFrom W.heap.size J) (hn0 : n₀ ≤ W.heap.size) (hC : W.heap[Bc]? = some (.cells #[.slice ha hl hc, .slice sa sl sc] 33 (0, 0))) (hYr : W.heap[By]? = some (.cells #[.int .i64 y] 3 (0, 0))) (hH : HosAt n₀ W ha hl H) (hT : Tabs W) (h0 : J [] W) :
    CallsIn Fence.wide n Tryd.prog 89 #[.func (.yield l) #[] #[], .pointer (some ⟨Bc, 0, none⟩), .pointer (some ⟨By, 0, none⟩)] W fun e W' => (∃ v, e = .returned v) ∧
      ((∃ ys, ys = hdL H y hl ∧ J ys W') ∨ (∃ pre, pre <+: hdL H y hl ∧ Jx pre W')) := by
  have c0 : W.cell? ⟨Bc, 0, none⟩ = some (.slice ha hl hc) := cell_of_row _ Bc 0 _ _ _ hC
  have HH := Lib.hid hH
  have HJA := Lib.hid hJ
  have HY := Lib.hid hY
  have HT := Lib.hid hT
  have HYR := Lib.hid hYr
  have HHO := Lib.hid hho
  have H0 := Lib.hid h0
  clear hH hJ hY hT hYr hho hC h0
  refine callsIn_of_wp Tryd.func89 rfl trivial ?_ rfl
  simp only [Tryd.ntmps89, List.size_toArray, List.length_cons, List.length_nil, Nat.reduceAdd, Nat.reduceSub, Array.replicate_succ, Array.replicate_zero, List.push_toArray, List.append_toArray, List.nil_append, List.cons_append]
  gi_wp2
  gi_loopw [13] (fun i wr => ∃ k : Nat, k ≤ hl ∧ i = .int .i64 k ∧ J (hdL H y k) wr ∧ Below n₀ W wr) (fun i _ => (hl - intOf i).toNat)
  case atStart => exact ⟨0, Nat.zero_le _, rfl, H0.out, Below.refl _ _⟩
  case round =>
    obtain ⟨k, hk, rfl, hJs, hbn⟩ := hrel
    clear c0
    by_cases hlt : k < hl
    · have hlti : (k : Int) < hl := by omega
      obtain ⟨b, o, rfl, hbl, a0, a1, a2, a3, a4, a5⟩ := HH.out.next hbn (Nat.le_refl _) hn0 k hlt
      have hhk := HHO.out k hlt
      have hsucc := hdL_succ H y k
      have hpfx : hdL H y (k + 1) <+: hdL H y hl := hdL_prefix H y (by omega)
      obtain ⟨h, hhe⟩ : ∃ h, h = H k := ⟨_, rfl⟩
      rw [← hhe] at a0 a1 a2 a3 a4 a5 hhk hsucc
      have hbx0 := (Below.refl wr.heap.size wr).alloc (Nat.le_refl _) (.cells (hoC h.k h.y h.m h.d h.w h.n) 132)
      have hyw := (hbn.block By (by omega)).trans HYR.out
      have hnw : n₀ ≤ wr.heap.size := Nat.le_trans hn0 hbn.size
      have y0 : (wr.alloc (.cells (hoC h.k h.y h.m h.d h.w h.n) 132)).cell? ⟨By, 0, none⟩ = some (.int .i64 y) := cell_of_row _ _ 0 _ _ _ (heap_old hyw _)
      have HNR := Lib.hid (near_any h y hhk hy0 hy1 _ (HT.out.below h0n (hbn.trans (hbx0.mono hnw))))
      have HBX0 := Lib.hid hbx0
      have HBN := Lib.hid hbn
      have HJS := Lib.hid hJs
      have HSU := Lib.hid hsucc
      have HPF := Lib.hid hpfx
      clear hhk hsucc hpfx hhe hbx0 hyw hbn hJs
      gi_wp2_with (refine ⟨trivial, ?_⟩; gi_at_call 90; refine (callsIn_wide.2 HNR.out).mono ?_; rintro e wd ⟨⟨Y1, M1, D1, Y2, M2, D2, hq, rfl⟩, hBd⟩; have HQ := Lib.hid hq; have HBD := Lib.hid hBd; clear hq hBd y0 a0 a1 a2 a3 a4 a5 hnw)
      have hbd := HBX0.out.trans (HBD.out.mono HBX0.out.size)
      have hjd := HJA.out _ wr wd none HJS.out ⟨hbd.os, hbd.tape, hbd.output, hbd.size, fun q hq _ => hbd.block q hq⟩ (fun r e => by cases e)
      have hbnd := HBN.out.trans (hbd.mono (Nat.le_trans hn0 HBN.out.size))
      have HJD := Lib.hid hjd
      have HBND := Lib.hid hbnd
      clear hbd hjd hbnd HBX0 HBD HJS HBN HNR
      gi_loopw [20] (fun i w2 => ∃ j : Nat, j ≤ 2 ∧ i = .int .i64 j ∧ J (hdL H y k ++ (if j = 0 then [] else if j = 1 then toE (yd y Y1 M1 D1) else toE (yd y Y1 M1 D1) ++ toE (yd y Y2 M2 D2))) w2 ∧ Below n₀ W w2) (fun i _ => (2 - intOf i).toNat)
      case atStart => exact ⟨0, Nat.zero_le _, rfl, by simpa using HJD.out, HBND.out⟩
      case round =>
        obtain ⟨j, hj, rfl, hJs, hbn⟩ := hrel
        obtain ⟨P1, hP1⟩ : ∃ P, P = toE (yd y Y1 M1 D1) := ⟨_, rfl⟩
        obtain ⟨P2, hP2⟩ : ∃ P, P = toE (yd y Y2 M2 D2) := ⟨_, rfl⟩
        have HBN := Lib.hid hbn
        have hfull : hdL H y k ++ (P1 ++ P2) <+: hdL H y hl := by
          rw [hP1, hP2, ← toE_append, HQ.out, ← HSU.out]; exact HPF.out
        clear hbn
        rcases (by omega : j = 0 ∨ j = 1 ∨ j = 2) with rfl | rfl | rfl
        · -- 0
          have hJs : J (hdL H y k ++ []) wr := hJs
          have hlen1 : May Y1 M1 D1 → Y1 = y → (hdL H y k ++ ([] : List DayE)).length < (hdL H y hl).length := fun hm e => by
            have hp : P1.length = 1 := by rw [hP1, yd_yes hm e, toE_one (day_bounds hm)]; rfl
            have := hfull.length_le
            simp only [List.length_append, List.length_nil] at this ⊢
            omega
          have hpre1 : May Y1 M1 D1 → Y1 = y → ∀ q, q = (hdL H y k ++ ([] : List DayE)) ++ P1 → q <+: hdL H y hl := fun hm e q hq => by
            rw [hq, List.append_nil]
            exact (List.prefix_append _ P2).trans (by rw [List.append_assoc]; exact hfull)
          have hidx := index_0 Y1 M1 D1 Y2 M2 D2 wr
          have hb1 := (Below.refl wr.heap.size wr).alloc (Nat.le_refl _) (.cells #[.int .i64 Y1, .int .i64 M1, .int .i64 D1] 110)
          have HZD := Lib.hid (heap_alloc_new wr (.cells #[.int .i64 Y1, .int .i64 M1, .int .i64 D1] 110))
          have hnw : n₀ ≤ wr.heap.size := Nat.le_trans hn0 HBN.out.size
          have HTD := Lib.hid (HT.out.below h0n (HBN.out.trans (hb1.mono hnw)))
          by_cases hm : May Y1 M1 D1
          · have hdb := day_bounds hm
            by_cases hyr : Y1 = y
            · have hlen := hlen1 hm hyr
              have hpre := hpre1 hm hyr
              obtain ⟨V, hV⟩ : ∃ V, V = dayOf Y1 M1 D1 := ⟨_, rfl⟩
              have HDY := Lib.hid (day_yes Y1 M1 D1 _ HTD.out hm)
              have hdb2 : 0 ≤ V ∧ V ≤ 2932896 := by rw [hV]; exact hdb
              rw [← hV] at HDY
              have hseg : P1 = ([] : List DayE) ++ [⟨V, hdb2⟩] := by rw [hP1]; rw [yd_yes hm hyr, ← hV, toE_one hdb2]; rfl
              have HSEG := Lib.hid hseg
              subst hyr
              clear hdb hm hV hseg
              gi_wp2_with (refine ⟨trivial, ?_⟩; gi_at_call 47; refine (callsIn_wide.2 (HDY.out)).mono ?_; rintro e w2 ⟨rfl, hB2⟩; have hbx := hb1.trans (hB2.mono hb1.size); have hJ2 := HJA.out _ wr w2 none hJs ⟨hbx.os, hbx.tape, hbx.output, hbx.size, fun q hq _ => hbx.block q hq⟩ (fun r e => by cases e); have hBn := HBN.out.trans (hbx.mono (by omega)); have hy2 := (hBn.block By (by omega)).trans HYR.out; have hd2 := (hB2.block wr.heap.size (by simp)).trans HZD.out; have d0 : w2.cell? ⟨wr.heap.size, 0, none⟩ = some (.int .i64 Y1) := cell_of_row w2 _ 0 _ _ _ hd2; have y0 : w2.cell? ⟨By, 0, none⟩ = some (.int .i64 Y1) := cell_of_row w2 _ 0 _ _ _ hy2; obtain ⟨fn, tmps, assign, body, hyy, hR⟩ := HY.out _ (⟨V, hdb2⟩ : DayE) w2 hJ2 hlen; have HRR := Lib.hid hR; have HBn := Lib.hid hBn; clear hR hbx hJ2 hBn hy2 hd2 hB2)
              refine HRR.out.mono ?_
              rintro e W6 (⟨rfl, hJ6, hk6⟩ | ⟨rfl, hJx6⟩)
              · have HJ6 := Lib.hid hJ6
                have HK6 := Lib.hid (HBn.out.trans hk6)
                clear hJ6 hk6 d0 y0
                gi_wp2
                go_roundw
                case rel =>
                  refine ⟨1, by omega, by go_num, ?_, HK6.out⟩
                  show J (hdL H _ k ++ toE (yd _ Y1 M1 D1)) _; rw [← hP1]
                  rw [HSEG.out, ← List.append_assoc]
                  exact HJ6.out
                case measure => first | (simp [intOf]; done) | (simp [intOf]; omega)
              · clear d0 y0
                gi_wp2
                refine bodyPost_ret (results_none rfl _ _ _) rfl ?_
                exact ⟨⟨_, rfl⟩, .inr ⟨_, hpre _ (by rw [HSEG.out]; rfl), hJx6⟩⟩
            · have hne : (Y1 == y) = false := by simp [hyr]
              have HDY := Lib.hid (day_yes Y1 M1 D1 _ HTD.out hm)
              clear hdb
              gi_wp2_with (refine ⟨trivial, ?_⟩; gi_at_call 47; refine (callsIn_wide.2 (HDY.out)).mono ?_; rintro e w2 ⟨rfl, hB2⟩; have hbx := hb1.trans (hB2.mono hb1.size); have hJ2 := HJA.out _ wr w2 none hJs ⟨hbx.os, hbx.tape, hbx.output, hbx.size, fun q hq _ => hbx.block q hq⟩ (fun r e => by cases e); have hBn := HBN.out.trans (hbx.mono (by omega)); have hy2 := (hBn.block By (by omega)).trans HYR.out; have hd2 := (hB2.block wr.heap.size (by simp)).trans HZD.out; have d0 : w2.cell? ⟨wr.heap.size, 0, none⟩ = some (.int .i64 Y1) := cell_of_row w2 _ 0 _ _ _ hd2; have y0 : w2.cell? ⟨By, 0, none⟩ = some (.int .i64 y) := cell_of_row w2 _ 0 _ _ _ hy2)
              refine ⟨(fun f hf => by cases hf), ?_⟩
              have HJ2 := Lib.hid hJ2
              have HBn := Lib.hid hBn
              clear hJ2 hBn hbx hB2 hy2 hd2 d0 y0 hJs
              gi_wp2
              go_roundw
              case rel =>
                refine ⟨1, by omega, by go_num, ?_, HBn.out⟩
                show J (hdL H y k ++ toE (yd y Y1 M1 D1)) _; rw [← hP1]
                rw [show P1 = ([] : List DayE) from (by rw [hP1]; rw [yd_no (fun q => hyr q.2)]; rfl)]
                exact HJ2.out
              case measure => first | (simp [intOf]; done) | (simp [intOf]; omega)
          · have HDY := Lib.hid (day_no Y1 M1 D1 _ HTD.out hm)
            gi_wp2_with (refine ⟨trivial, ?_⟩; gi_at_call 47; refine (callsIn_wide.2 (HDY.out)).mono ?_; rintro e w2 ⟨rfl, hB2⟩; have hbx := hb1.trans (hB2.mono hb1.size); have hJ2 := HJA.out _ wr w2 none hJs ⟨hbx.os, hbx.tape, hbx.output, hbx.size, fun q hq _ => hbx.block q hq⟩ (fun r e => by cases e); have hBn := HBN.out.trans (hbx.mono (by omega)); have hy2 := (hBn.block By (by omega)).trans HYR.out; have hd2 := (hB2.block wr.heap.size (by simp)).trans HZD.out; have d0 : w2.cell? ⟨wr.heap.size, 0, none⟩ = some (.int .i64 Y1) := cell_of_row w2 _ 0 _ _ _ hd2; have y0 : w2.cell? ⟨By, 0, none⟩ = some (.int .i64 y) := cell_of_row w2 _ 0 _ _ _ hy2)
            refine ⟨(fun f hf => by cases hf), ?_⟩
            have HJ2 := Lib.hid hJ2
            have HBn := Lib.hid hBn
            clear hJ2 hBn hbx hB2 hy2 hd2 d0 y0 hJs
            gi_wp2
            go_roundw
            case rel =>
              refine ⟨1, by omega, by go_num, ?_, HBn.out⟩
              show J (hdL H y k ++ toE (yd y Y1 M1 D1)) _; rw [← hP1]
              rw [show P1 = ([] : List DayE) from (by rw [hP1]; rw [yd_no (fun q => hm q.1)]; rfl)]
              exact HJ2.out
            case measure => first | (simp [intOf]; done) | (simp [intOf]; omega)
        · -- 1
          have hJs : J (hdL H y k ++ P1) wr := by rw [hP1]; exact hJs
          have hlen2 : May Y2 M2 D2 → Y2 = y → (hdL H y k ++ P1).length < (hdL H y hl).length := fun hm e => by
            have hp : P2.length = 1 := by rw [hP2, yd_yes hm e, toE_one (day_bounds hm)]; rfl
            have := hfull.length_le
            simp only [List.length_append] at this ⊢
            omega
          have hpre2 : May Y2 M2 D2 → Y2 = y → ∀ q, q = (hdL H y k ++ P1) ++ P2 → q <+: hdL H y hl := fun hm e q hq => by
            rw [hq, List.append_assoc]
            exact hfull
          have hidx := index_1 Y1 M1 D1 Y2 M2 D2 wr
          have hb1 := (Below.refl wr.heap.size wr).alloc (Nat.le_refl _) (.cells #[.int .i64 Y2, .int .i64 M2, .int .i64 D2] 110)
          have HZD := Lib.hid (heap_alloc_new wr (.cells #[.int .i64 Y2, .int .i64 M2, .int .i64 D2] 110))
          have hnw : n₀ ≤ wr.heap.size := Nat.le_trans hn0 HBN.out.size
          have HTD := Lib.hid (HT.out.below h0n (HBN.out.trans (hb1.mono hnw)))
          by_cases hm : May Y2 M2 D2
          · have hdb := day_bounds hm
            by_cases hyr : Y2 = y
            · have hlen := hlen2 hm hyr
              have hpre := hpre2 hm hyr
              obtain ⟨V, hV⟩ : ∃ V, V = dayOf Y2 M2 D2 := ⟨_, rfl⟩
              have HDY := Lib.hid (day_yes Y2 M2 D2 _ HTD.out hm)
              have hdb2 : 0 ≤ V ∧ V ≤ 2932896 := by rw [hV]; exact hdb
              rw [← hV] at HDY
              have hseg : (P1 ++ P2) = P1 ++ [⟨V, hdb2⟩] := by rw [hP2]; rw [yd_yes hm hyr, ← hV, toE_one hdb2]
              have HSEG := Lib.hid hseg
              subst hyr
              clear hdb hm hV hseg
              gi_wp2_with (refine ⟨trivial, ?_⟩; gi_at_call 47; refine (callsIn_wide.2 (HDY.out)).mono ?_; rintro e w2 ⟨rfl, hB2⟩; have hbx := hb1.trans (hB2.mono hb1.size); have hJ2 := HJA.out _ wr w2 none hJs ⟨hbx.os, hbx.tape, hbx.output, hbx.size, fun q hq _ => hbx.block q hq⟩ (fun r e => by cases e); have hBn := HBN.out.trans (hbx.mono (by omega)); have hy2 := (hBn.block By (by omega)).trans HYR.out; have hd2 := (hB2.block wr.heap.size (by simp)).trans HZD.out; have d0 : w2.cell? ⟨wr.heap.size, 0, none⟩ = some (.int .i64 Y2) := cell_of_row w2 _ 0 _ _ _ hd2; have y0 : w2.cell? ⟨By, 0, none⟩ = some (.int .i64 Y2) := cell_of_row w2 _ 0 _ _ _ hy2; obtain ⟨fn, tmps, assign, body, hyy, hR⟩ := HY.out _ (⟨V, hdb2⟩ : DayE) w2 hJ2 hlen; have HRR := Lib.hid hR; have HBn := Lib.hid hBn; clear hR hbx hJ2 hBn hy2 hd2 hB2)
              refine HRR.out.mono ?_
              rintro e W6 (⟨rfl, hJ6, hk6⟩ | ⟨rfl, hJx6⟩)
              · have HJ6 := Lib.hid hJ6
                have HK6 := Lib.hid (HBn.out.trans hk6)
                clear hJ6 hk6 d0 y0
                gi_wp2
                go_roundw
                case rel =>
                  refine ⟨2, by omega, by go_num, ?_, HK6.out⟩
                  show J (hdL H _ k ++ (toE (yd _ Y1 M1 D1) ++ toE (yd _ Y2 M2 D2))) _; rw [← hP1, ← hP2]
                  rw [HSEG.out, ← List.append_assoc]
                  exact HJ6.out
                case measure => first | (simp [intOf]; done) | (simp [intOf]; omega)
              · clear d0 y0
                gi_wp2
                refine bodyPost_ret (results_none rfl _ _ _) rfl ?_
                exact ⟨⟨_, rfl⟩, .inr ⟨_, hpre _ (by rw [List.append_assoc, ← HSEG.out, List.append_assoc]), hJx6⟩⟩
            · have hne : (Y2 == y) = false := by simp [hyr]
              have HDY := Lib.hid (day_yes Y2 M2 D2 _ HTD.out hm)
              clear hdb
              gi_wp2_with (refine ⟨trivial, ?_⟩; gi_at_call 47; refine (callsIn_wide.2 (HDY.out)).mono ?_; rintro e w2 ⟨rfl, hB2⟩; have hbx := hb1.trans (hB2.mono hb1.size); have hJ2 := HJA.out _ wr w2 none hJs ⟨hbx.os, hbx.tape, hbx.output, hbx.size, fun q hq _ => hbx.block q hq⟩ (fun r e => by cases e); have hBn := HBN.out.trans (hbx.mono (by omega)); have hy2 := (hBn.block By (by omega)).trans HYR.out; have hd2 := (hB2.block wr.heap.size (by simp)).trans HZD.out; have d0 : w2.cell? ⟨wr.heap.size, 0, none⟩ = some (.int .i64 Y2) := cell_of_row w2 _ 0 _ _ _ hd2; have y0 : w2.cell? ⟨By, 0, none⟩ = some (.int .i64 y) := cell_of_row w2 _ 0 _ _ _ hy2)
              refine ⟨(fun f hf => by cases hf), ?_⟩
              have HJ2 := Lib.hid hJ2
              have HBn := Lib.hid hBn
              clear hJ2 hBn hbx hB2 hy2 hd2 d0 y0 hJs
              gi_wp2
              go_roundw
              case rel =>
                refine ⟨2, by omega, by go_num, ?_, HBn.out⟩
                show J (hdL H y k ++ (toE (yd y Y1 M1 D1) ++ toE (yd y Y2 M2 D2))) _; rw [← hP1, ← hP2]
                rw [show (P1 ++ P2) = P1 from (by rw [hP2]; rw [yd_no (fun q => hyr q.2), toE_nil, List.append_nil])]
                exact HJ2.out
              case measure => first | (simp [intOf]; done) | (simp [intOf]; omega)
          · have HDY := Lib.hid (day_no Y2 M2 D2 _ HTD.out hm)
            gi_wp2_with (refine ⟨trivial, ?_⟩; gi_at_call 47; refine (callsIn_wide.2 (HDY.out)).mono ?_; rintro e w2 ⟨rfl, hB2⟩; have hbx := hb1.trans (hB2.mono hb1.size); have hJ2 := HJA.out _ wr w2 none hJs ⟨hbx.os, hbx.tape, hbx.output, hbx.size, fun q hq _ => hbx.block q hq⟩ (fun r e => by cases e); have hBn := HBN.out.trans (hbx.mono (by omega)); have hy2 := (hBn.block By (by omega)).trans HYR.out; have hd2 := (hB2.block wr.heap.size (by simp)).trans HZD.out; have d0 : w2.cell? ⟨wr.heap.size, 0, none⟩ = some (.int .i64 Y2) := cell_of_row w2 _ 0 _ _ _ hd2; have y0 : w2.cell? ⟨By, 0, none⟩ = some (.int .i64 y) := cell_of_row w2 _ 0 _ _ _ hy2)
            refine ⟨(fun f hf => by cases hf), ?_⟩
            have HJ2 := Lib.hid hJ2
            have HBn := Lib.hid hBn
            clear hJ2 hBn hbx hB2 hy2 hd2 d0 y0 hJs
            gi_wp2
            go_roundw
            case rel =>
              refine ⟨2, by omega, by go_num, ?_, HBn.out⟩
              show J (hdL H y k ++ (toE (yd y Y1 M1 D1) ++ toE (yd y Y2 M2 D2))) _; rw [← hP1, ← hP2]
              rw [show (P1 ++ P2) = P1 from (by rw [hP2]; rw [yd_no (fun q => hm q.1), toE_nil, List.append_nil])]
              exact HJ2.out
            case measure => first | (simp [intOf]; done) | (simp [intOf]; omega)
        · -- 2
          have hJe : J (hdL H y (k + 1)) wr := by
            rw [HSU.out, ← HQ.out, toE_append]
            exact hJs
          have HJE := Lib.hid hJe
          clear hJe hJs hfull hP1 hP2
          gi_wp2
          go_roundw
          case rel => exact ⟨k + 1, by omega, by go_num, HJE.out, HBN.out⟩
          case measure => first | (simp [intOf]; done) | (simp [intOf]; omega)
    · have hke : k = hl := by omega
      subst hke
      have hnl : ¬ ((k : Int) < k) := by omega
      have HJS := Lib.hid hJs
      clear hJs hbn
      gi_wp2
      go_end0
      first | exact ⟨⟨_, rfl⟩, .inl ⟨_, rfl, HJS.out⟩⟩ | exact ⟨⟨_, rfl⟩, .inl HJS.out⟩
end Go.Proofs.YtbffmobjiiicoaaDoor.H8
end
section
/- A region that draws, met by hand outside a fence. -/
set_option linter.unusedVariables false
set_option linter.unusedSimpArgs false
namespace Go.Proofs.YtbffmobjiiicoaaDoor.H8
open Go.RowKit
section
variable {P : Program} {md : Region.Mode} {ops : Array Oper} {Q : Exit → Act → World → Prop}
theorem op_only {o : Oper} {a : Act} {w : World} {K K' : Act → World → Prop} (hK : ∀ a w, K a w → K' a w) (h : o.wp P a w K (onlyNormal Q)) : o.wp P a w K' Q := by
  unfold Oper.wp at h ⊢
  generalize (execOp a.eval o).run P w = r at *
  cases r with
  | ok x w' =>
    cases x <;> simp only [Oper.upon] at h ⊢
    case value v => exact hK _ _ h
    case skip => exact hK _ _ h
    case defer d => exact hK _ _ h
    case enter f args =>
      refine h.mono ?_
      intro e w'' he
      cases e with
      | returned v => exact hK _ _ he
      | panicked c => cases he.1
      | outgrown => exact absurd he only_out
    case row row args =>
      intro c cs
      obtain ⟨v, w2, r, s⟩ := h c cs
      exact ⟨v, w2, hK _ _ r, s⟩
  | halt x w' => cases x <;> simp only [Oper.upon] at h ⊢ <;> first | exact h.elim | (cases h.1)
theorem any_only : ∀ (g : Nat) (listed : Array Bool) (a : Act) (w : World), wpAny P md ops (onlyNormal Q) g listed a w → wpAny P md ops Q g listed a w
  | 0, listed, a, w, h => ⟨h.1, h.2.2⟩
  | g + 1, listed, a, w, h => ⟨fun h0 => (h.1 h0).2, fun i hi => by
    have hh := h.2 i hi
    unfold wpOp at hh ⊢
    split
    · rename_i ho; simp only [ho] at hh; exact any_only g _ a w hh
    · rename_i o ho
      simp only [ho] at hh
      split
      · rename_i hw
        simp only [hw, if_true] at hh
        rcases hh with hh | ⟨_, hh⟩
        · exact .inl (op_only (fun a' w' h' => any_only g _ a' w' h') hh)
        · exact absurd hh only_out
      · rename_i hw; simp only [hw] at hh; exact any_only g _ _ w hh⟩
theorem region_held {id : Nat} {a : Act} {w : World} {L : List Oper} (S : World → Prop) (hm : P.follows .mixedOrders = true)
    (h : wpAnyH P .any L.toArray (onlyNormal Q) S L.toArray.size (Array.replicate L.toArray.size false) a w.drew) : (Code.region id L.toArray true).wp P Q a w :=
  wp_region_any hm (any_only _ _ _ _ (wpAny_of_held _ _ _ _ h))
theorem wp_of_call {o : Oper} {a : Act} {w : World} {K : Act → World → Prop} {f : FuncId} {args : Array Value} (hrun : (execOp a.eval o).run P w = .ok (.enter f args) w) (h : Calls P f args w fun e w' => ∃ v, e = .returned v ∧ K (a.put o.dst v) w') : o.wp P a w K Q := by
  unfold Oper.wp; rw [hrun]
  refine Calls.mono h ?_
  rintro e w' ⟨v, rfl, hk⟩
  exact hk
/-- The one operation that may come up is a call. -/
theorem held_call {S : World → Prop} {i : Nat} {o : Oper} {fuel : Nat} {listed : Array Bool} {a : Act} {w : World} {f : FuncId} {args : Array Value} {R : Value → World → Prop} (hi : ops[i]? = some o) (hr : Region.ready .any ops listed = [i]) (hg : o.guard = none) (hrun : (execOp a.eval o).run P w = .ok (.enter f args) w)
    (hc : Calls P f args w fun e w' => ∃ v, e = .returned v ∧ R v w') (h : ∀ v w', R v w' → S w' ∧ wpAnyH P .any ops (onlyNormal Q) S fuel (listed.setIfInBounds i true) (a.put o.dst v) w') : wpAnyH P .any ops (onlyNormal Q) S (fuel + 1) listed a w := by
  refine held_one hi hr hg (wp_of_call hrun (hc.mono ?_))
  rintro e w' ⟨v, rfl, hv⟩
  exact ⟨v, rfl, h v w' hv⟩
end
end Go.Proofs.YtbffmobjiiicoaaDoor.H8
end
