/- The contract of paschalOf. -/
import Derived.Test.YtgedcfgmfhlkdaaDoorHIs
set_option linter.unusedVariables false
set_option linter.unusedSimpArgs false
namespace Go.Proofs.YtgedcfgmfhlkdaaDoor
open Go.RowKit Go.Shelf
abbrev dtC (y m d : Int) : Array Value := #[.int .i64 y, .int .i64 m, .int .i64 d]
theorem results_pas {y m d : Int} {b : Nat} {tmps : Array Value} {w : World} (h2 : tmps.getD 4 undef = .pointer (some ⟨b, 0, none⟩))
    (hb : w.heap[b]? = some (.cells #[.int .i64 y, .int .i64 m, .int .i64 d] 39 (0, 0))) : (results Tryd.f70 tmps).run Tryd.prog w = .ok (dateV y m d) w := by
  have c0 : w.cell? ⟨b, 0, none⟩ = some (.int .i64 y) := cell_of_row w b 0 _ _ _ hb
  have c1 : w.cell? ⟨b, 1, none⟩ = some (.int .i64 m) := cell_of_row w b 1 _ _ _ hb
  have c2 : w.cell? ⟨b, 2, none⟩ = some (.int .i64 d) := cell_of_row w b 2 _ _ _ hb
  simp only [Array.getD_eq_getD_getElem?] at h2
  simp [results, Tryd.results70, go_sem, h2, c0, c1, c2, dateV]
theorem set3 {Z : World} {B : Nat} {x y z : Value} (h : Z.heap[B]? = some (.cells #[x, y, z] 39 (0, 0))) (a b c : Int) :
    (((Z.setCell ⟨B, 0, none⟩ (.int .i64 a)).setCell ⟨B, 1, none⟩ (.int .i64 b)).setCell ⟨B, 2, none⟩ (.int .i64 c)).heap[B]? = some (.cells #[.int .i64 a, .int .i64 b, .int .i64 c] 39 (0, 0)) :=
  heap_setCell_same _ B 2 _ _ _ (heap_setCell_same _ B 1 _ _ _ (heap_setCell_same _ B 0 _ _ _ h))
theorem set3_below {Z w : World} {B n : Nat} (h : Below n w Z) (hB : n ≤ B) (a b c : Int) :
    Below n w (((Z.setCell ⟨B, 0, none⟩ (.int .i64 a)).setCell ⟨B, 1, none⟩ (.int .i64 b)).setCell ⟨B, 2, none⟩ (.int .i64 c)) :=
  ((h.setCell (p := ⟨B, 0, none⟩) hB _).setCell (p := ⟨B, 1, none⟩) hB _).setCell (p := ⟨B, 2, none⟩) hB _
theorem hcells3 {W : World} {B : Nat} {x y z : Value} {T : TypeId} {fr : Nat × Nat} (h : W.heap[B]? = some (.cells #[x, y, z] T fr)) :
    W.cell? ⟨B, 0, none⟩ = some x ∧ W.cell? ⟨B, 1, none⟩ = some y ∧ W.cell? ⟨B, 2, none⟩ = some z :=
  ⟨cell_of_row W B 0 _ _ _ h, cell_of_row W B 1 _ _ _ h, cell_of_row W B 2 _ _ _ h⟩
theorem frozen3 {W : World} {B : Nat} {x y z : Value} {T : TypeId} (h : W.heap[B]? = some (.cells #[x, y, z] T (0, 0))) :
    W.frozen? ⟨B, 0, none⟩ = false ∧ W.frozen? ⟨B, 1, none⟩ = false ∧ W.frozen? ⟨B, 2, none⟩ = false :=
  ⟨frozen_of_row W B 0 _ _ h, frozen_of_row W B 1 _ _ h, frozen_of_row W B 2 _ _ h⟩
set_option maxRecDepth 100000 in
set_option maxHeartbeats 2000000 in
theorem pas_no (y n : Int) (h : ¬ (1970 ≤ y ∧ y ≤ 9999)) (w : World) :
    Calls Tryd.prog 70 #[.int .i64 y, .int .i64 n] w fun e w' => e = .returned (dateV 0 0 0) ∧ Below w.heap.size w w' := by
  have hz := heap_alloc_new w (.cells #[.int .i64 0, .int .i64 0, .int .i64 0] 39)
  have HB0 := Lib.hid ((Below.refl _ w).alloc (Nat.le_refl _) (.cells #[.int .i64 0, .int .i64 0, .int .i64 0] 39))
  have HZ := Lib.hid hz
  clear hz
  go_enter Tryd.func70, Tryd.ntmps70
  go_wp2_with fail
  refine (easter_no y h _).mono ?_
  rintro e w1 ⟨rfl, hB1⟩
  have hz1 := (hB1.block w.heap.size (by simp)).trans HZ.out
  obtain ⟨a0, a1, a2⟩ := hcells3 (heap_old hz1 (.cells #[.int .i64 0, .int .i64 0, .int .i64 0] 39))
  obtain ⟨f0, f1, f2⟩ := frozen3 (heap_old hz1 (.cells #[.int .i64 0, .int .i64 0, .int .i64 0] 39))
  have HF := Lib.hid (heap_old hz1 (.cells #[.int .i64 0, .int .i64 0, .int .i64 0] 39))
  have HB1 := Lib.hid ((HB0.out.trans (hB1.mono HB0.out.size)).alloc (HB0.out.trans (hB1.mono HB0.out.size)).size (.cells #[.int .i64 0, .int .i64 0, .int .i64 0] 39))
  clear hB1 hz1 h
  go_wp2
  refine bodyPost_ret (results_pas rfl (set3 HF.out 0 0 0)) rfl ?_
  exact ⟨rfl, set3_below HB1.out (Nat.le_refl _) 0 0 0⟩
set_option maxRecDepth 100000 in
set_option maxHeartbeats 2000000 in
theorem pas_in (y n : Int) (h0 : 1970 ≤ y) (h1 : y ≤ 9999) (hn : -100 ≤ n ∧ n ≤ 200) (Y M D : Int) (hd : IsDate (eaDay y + n) Y M D) (w : World) (hT : Tabs w) :
    Calls Tryd.prog 70 #[.int .i64 y, .int .i64 n] w fun e w' => e = .returned (dateV Y M D) ∧ Below w.heap.size w w' := by
  have hz := heap_alloc_new w (.cells #[.int .i64 0, .int .i64 0, .int .i64 0] 39)
  have HB0 := Lib.hid ((Below.refl _ w).alloc (Nat.le_refl _) (.cells #[.int .i64 0, .int .i64 0, .int .i64 0] 39))
  have HZ := Lib.hid hz
  have HT := Lib.hid hT
  have hm := ea_may h0 h1
  have hdb := day_bounds hm
  have HE := Lib.hid (easter_yes y h0 h1)
  have hda : IsDate (eaDay y) y (eaM y) (eaD y) := ⟨hm, rfl⟩
  obtain ⟨N, hN⟩ : ∃ N, N = eaDay y := ⟨_, rfl⟩
  obtain ⟨em, hem⟩ : ∃ N, N = eaM y := ⟨_, rfl⟩
  obtain ⟨ed, hed⟩ : ∃ N, N = eaD y := ⟨_, rfl⟩
  have hdb2 : 0 ≤ N ∧ N ≤ 2932896 := by rw [hN]; exact hdb
  rw [← hN, ← hem, ← hed] at hda
  rw [← hem, ← hed] at HE
  rw [← hN] at hd
  have HDA := Lib.hid hda
  have HD := Lib.hid hd
  clear hz hT hm hdb hda hN hem hed hd h0 h1
  obtain ⟨hn1, hn2⟩ := hn
  obtain ⟨hN1, hN2⟩ := hdb2
  go_enter Tryd.func70, Tryd.ntmps70
  go_wp2_with fail
  refine (HE.out _).mono ?_
  rintro e w1 ⟨rfl, hB1⟩
  have hz1 := (hB1.block w.heap.size (by simp)).trans HZ.out
  have hB1a := (HB0.out.trans (hB1.mono HB0.out.size)).alloc (HB0.out.trans (hB1.mono HB0.out.size)).size (.cells #[.int .i64 y, .int .i64 em, .int .i64 ed] 39)
  have HZ1 := Lib.hid (heap_old hz1 (.cells #[.int .i64 y, .int .i64 em, .int .i64 ed] 39))
  have HDAY := Lib.hid (day_is _ _ _ _ HDA.out _ (HT.out.next hB1a))
  have hwl : w.heap.size < w1.heap.size := by have := hB1.size; rw [World.size_alloc] at this; omega
  have HB1 := Lib.hid hB1a
  clear hB1 hz1 hB1a HB0 HZ
  go_wp2_with fail
  refine HDAY.out.mono ?_
  rintro e w2 ⟨rfl, hB2⟩
  have hz2 := (hB2.block w.heap.size (by rw [World.size_alloc]; omega)).trans HZ1.out
  have hB2a := HB1.out.trans (hB2.mono HB1.out.size)
  have HOF := Lib.hid (of_is (N + n) Y M D HD.out w2 (HT.out.next hB2a))
  have HZ2 := Lib.hid hz2
  have HB2 := Lib.hid hB2a
  have hwl2 : w.heap.size < w2.heap.size := by have := hB2.size; rw [World.size_alloc] at this; omega
  clear hB2 hz2 hB2a HB1 HZ1 HDAY hwl
  go_wp2_with fail
  refine HOF.out.mono ?_
  rintro e w3 ⟨rfl, hB3⟩
  have hz3 := heap_old ((hB3.block w.heap.size hwl2).trans HZ2.out) (.cells #[.int .i64 Y, .int .i64 M, .int .i64 D] 39)
  have hB3a := HB2.out.trans (hB3.mono HB2.out.size)
  obtain ⟨a0, a1, a2⟩ := hcells3 hz3
  obtain ⟨f0, f1, f2⟩ := frozen3 hz3
  have HF := Lib.hid hz3
  have HBF := Lib.hid (hB3a.alloc hB3a.size (.cells #[.int .i64 Y, .int .i64 M, .int .i64 D] 39))
  clear hB3 hz3 hB3a HB2 HZ2 HOF
  go_wp2
  refine bodyPost_ret (results_pas rfl (set3 HF.out Y M D)) rfl ?_
  exact ⟨rfl, set3_below HBF.out (Nat.le_refl _) Y M D⟩
set_option maxRecDepth 100000 in
set_option maxHeartbeats 2000000 in
theorem pas_out (y n : Int) (h0 : 1970 ≤ y) (h1 : y ≤ 9999) (hn : -100 ≤ n ∧ n ≤ 200) (hd : ¬ (0 ≤ eaDay y + n ∧ eaDay y + n ≤ 2932896)) (w : World) (hT : Tabs w) :
    Calls Tryd.prog 70 #[.int .i64 y, .int .i64 n] w fun e w' => e = .returned (dateV 0 0 0) ∧ Below w.heap.size w w' := by
  have hz := heap_alloc_new w (.cells #[.int .i64 0, .int .i64 0, .int .i64 0] 39)
  have HB0 := Lib.hid ((Below.refl _ w).alloc (Nat.le_refl _) (.cells #[.int .i64 0, .int .i64 0, .int .i64 0] 39))
  have HZ := Lib.hid hz
  have HT := Lib.hid hT
  have hm := ea_may h0 h1
  have hdb := day_bounds hm
  have HE := Lib.hid (easter_yes y h0 h1)
  have hda : IsDate (eaDay y) y (eaM y) (eaD y) := ⟨hm, rfl⟩
  obtain ⟨N, hN⟩ : ∃ N, N = eaDay y := ⟨_, rfl⟩
  obtain ⟨em, hem⟩ : ∃ N, N = eaM y := ⟨_, rfl⟩
  obtain ⟨ed, hed⟩ : ∃ N, N = eaD y := ⟨_, rfl⟩
  have hdb2 : 0 ≤ N ∧ N ≤ 2932896 := by rw [hN]; exact hdb
  rw [← hN, ← hem, ← hed] at hda
  rw [← hem, ← hed] at HE
  rw [← hN] at hd
  have HDA := Lib.hid hda
  have HD := Lib.hid hd
  clear hz hT hm hdb hda hN hem hed hd h0 h1
  obtain ⟨hn1, hn2⟩ := hn
  obtain ⟨hN1, hN2⟩ := hdb2
  go_enter Tryd.func70, Tryd.ntmps70
  go_wp2_with fail
  refine (HE.out _).mono ?_
  rintro e w1 ⟨rfl, hB1⟩
  have hz1 := (hB1.block w.heap.size (by simp)).trans HZ.out
  have hB1a := (HB0.out.trans (hB1.mono HB0.out.size)).alloc (HB0.out.trans (hB1.mono HB0.out.size)).size (.cells #[.int .i64 y, .int .i64 em, .int .i64 ed] 39)
  have HZ1 := Lib.hid (heap_old hz1 (.cells #[.int .i64 y, .int .i64 em, .int .i64 ed] 39))
  have HDAY := Lib.hid (day_is _ _ _ _ HDA.out _ (HT.out.next hB1a))
  have hwl : w.heap.size < w1.heap.size := by have := hB1.size; rw [World.size_alloc] at this; omega
  have HB1 := Lib.hid hB1a
  clear hB1 hz1 hB1a HB0 HZ
  go_wp2_with fail
  refine HDAY.out.mono ?_
  rintro e w2 ⟨rfl, hB2⟩
  have hz2 := (hB2.block w.heap.size (by rw [World.size_alloc]; omega)).trans HZ1.out
  have hB2a := HB1.out.trans (hB2.mono HB1.out.size)
  have HOF := Lib.hid ((fun W hW => of_no (N + n) W hW HD.out) w2 (HT.out.next hB2a))
  have HZ2 := Lib.hid hz2
  have HB2 := Lib.hid hB2a
  have hwl2 : w.heap.size < w2.heap.size := by have := hB2.size; rw [World.size_alloc] at this; omega
  clear hB2 hz2 hB2a HB1 HZ1 HDAY hwl
  go_wp2_with fail
  refine HOF.out.mono ?_
  rintro e w3 ⟨rfl, hB3⟩
  have hz3 := heap_old ((hB3.block w.heap.size hwl2).trans HZ2.out) (.cells #[.int .i64 0, .int .i64 0, .int .i64 0] 39)
  have hB3a := HB2.out.trans (hB3.mono HB2.out.size)
  obtain ⟨a0, a1, a2⟩ := hcells3 hz3
  obtain ⟨f0, f1, f2⟩ := frozen3 hz3
  have HF := Lib.hid hz3
  have HBF := Lib.hid (hB3a.alloc hB3a.size (.cells #[.int .i64 0, .int .i64 0, .int .i64 0] 39))
  clear hB3 hz3 hB3a HB2 HZ2 HOF
  go_wp2
  refine bodyPost_ret (results_pas rfl (set3 HF.out 0 0 0)) rfl ?_
  exact ⟨rfl, set3_below HBF.out (Nat.le_refl _) 0 0 0⟩
theorem may_0 : ¬ May 0 0 0 := by decide
theorem pas_any (X y n : Int) (hX0 : 1970 ≤ X) (hX1 : X ≤ 9999) (hn : -100 ≤ n ∧ n ≤ 200) (w : World) (hT : Tabs w) :
    Calls Tryd.prog 70 #[.int .i64 y, .int .i64 n] w fun e w' => (∃ Y M D : Int, yd X Y M D = pd X y n ∧ e = .returned (dateV Y M D)) ∧ Below w.heap.size w w' := by
  have hyz : yd X 0 0 0 = [] := by unfold yd; rw [if_neg (fun h => may_0 h.1)]
  by_cases h : 1970 ≤ y ∧ y ≤ 9999
  · by_cases hd : 0 ≤ eaDay y + n ∧ eaDay y + n ≤ 2932896
    · obtain ⟨Y, M, D, h3⟩ := date_exists (eaDay y + n) hd.1 hd.2
      refine (pas_in y n h.1 h.2 hn Y M D h3 w hT).mono ?_
      rintro e w' ⟨rfl, hB⟩
      refine ⟨⟨Y, M, D, ?_, rfl⟩, hB⟩
      unfold yd pd
      by_cases hp : PaIn X y n
      · have hy := year_of_date h3 hp.2.1 hp.2.2
        rw [if_pos hp, if_pos ⟨h3.1, hy.symm⟩, ← h3.2]
      · rw [if_neg hp, if_neg]
        rintro ⟨hm, rfl⟩
        have := in_year hm
        rw [← h3.2] at this
        exact hp ⟨h, this⟩
    · refine (pas_out y n h.1 h.2 hn hd w hT).mono ?_
      rintro e w' ⟨rfl, hB⟩
      refine ⟨⟨0, 0, 0, ?_, rfl⟩, hB⟩
      rw [hyz, pd, if_neg]
      rintro ⟨_, h1, h2⟩
      have := year_days hX0 hX1
      omega
  · refine (pas_no y n h w).mono ?_
    rintro e w' ⟨rfl, hB⟩
    refine ⟨⟨0, 0, 0, ?_, rfl⟩, hB⟩
    rw [hyz, pd, if_neg (fun q => h q.1)]
end Go.Proofs.YtgedcfgmfhlkdaaDoor
