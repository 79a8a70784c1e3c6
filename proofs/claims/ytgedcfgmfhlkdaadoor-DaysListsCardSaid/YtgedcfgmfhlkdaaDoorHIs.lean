/- Contracts of isHoliday and isSeason. -/
import Derived.Test.YtgedcfgmfhlkdaaDoorHEq
set_option linter.unusedVariables false
set_option linter.unusedSimpArgs false
namespace Go.Proofs.YtgedcfgmfhlkdaaDoor
open Go.RowKit Go.Shelf
theorem hcells6 {W : World} {B : Nat} {k y m d v n : Int} {fr : Nat × Nat} (h : W.heap[B]? = some (.cells (hoC k y m d v n) 50 fr)) :
    W.cell? ⟨B, 0, none⟩ = some (.int .i64 k) ∧ W.cell? ⟨B, 1, none⟩ = some (.int .i64 y) ∧ W.cell? ⟨B, 2, none⟩ = some (.int .i64 m) ∧ W.cell? ⟨B, 3, none⟩ = some (.int .i64 d) ∧ W.cell? ⟨B, 4, none⟩ = some (.int .i64 v) ∧ W.cell? ⟨B, 5, none⟩ = some (.int .i64 n) :=
  ⟨cell_of_row W B 0 _ _ _ h, cell_of_row W B 1 _ _ _ h, cell_of_row W B 2 _ _ _ h, cell_of_row W B 3 _ _ _ h, cell_of_row W B 4 _ _ _ h, cell_of_row W B 5 _ _ _ h⟩
theorem strip_no {h : Ho} (hs : eqHo h (strip h) = false) : ¬ HoIs h := by
  obtain ⟨k, y, m, d, w, n⟩ := h
  rintro (⟨rfl, rfl, rfl, rfl, _⟩ | ⟨rfl, rfl, rfl, _⟩ | ⟨rfl, rfl, rfl, _⟩ | ⟨rfl, rfl, rfl, rfl, rfl, _⟩) <;> simp [eqHo, strip] at hs
theorem strip_yes {h : Ho} (hs : eqHo h (strip h) = true) : (h.k = 1 → h.y = 0 ∧ h.w = 0 ∧ h.n = 0) ∧ (h.k = 2 → h.w = 0 ∧ h.n = 0) ∧ (h.k = 3 → h.y = 0 ∧ h.d = 0) ∧ (h.k = 4 → h.y = 0 ∧ h.m = 0 ∧ h.d = 0 ∧ h.w = 0) := by
  obtain ⟨k, y, m, d, w, n⟩ := h
  refine ⟨?_, ?_, ?_, ?_⟩ <;> rintro rfl <;> simp [eqHo, strip] at hs ⊢ <;> omega
theorem results_dateIn {y m d : Int} {b : Nat} {tmps : Array Value} {w : World} (h2 : tmps.getD 2 undef = .pointer (some ⟨b, 0, none⟩))
    (hb : w.heap[b]? = some (.cells #[.int .i64 y, .int .i64 m, .int .i64 d] 39 (0, 0))) : (results Tryd.f54 tmps).run Tryd.prog w = .ok (dateV y m d) w := by
  have c0 : w.cell? ⟨b, 0, none⟩ = some (.int .i64 y) := cell_of_row w b 0 _ _ _ hb
  have c1 : w.cell? ⟨b, 1, none⟩ = some (.int .i64 m) := cell_of_row w b 1 _ _ _ hb
  have c2 : w.cell? ⟨b, 2, none⟩ = some (.int .i64 d) := cell_of_row w b 2 _ _ _ hb
  simp only [Array.getD_eq_getD_getElem?] at h2
  simp [results, Tryd.results54, go_sem, h2, c0, c1, c2, dateV]
theorem dateIn_any (h : Ho) (w : World) :
    Calls Tryd.prog 54 #[hoV h] w fun e w' => e = .returned (dateV h.y h.m h.d) ∧ Below w.heap.size w w' := by
  have HB := Lib.hid (((Below.refl _ w).alloc (Nat.le_refl _) (.cells (hoC h.k h.y h.m h.d h.w h.n) 50)).alloc (by simp) (.cells #[.int .i64 h.y, .int .i64 h.m, .int .i64 h.d] 39))
  go_enter Tryd.func54, Tryd.ntmps54
  go_wp2
  have e1 : w.heap.size + 1 = (w.alloc (.cells (hoC h.k h.y h.m h.d h.w h.n) 50)).heap.size := by rw [World.size_alloc]
  refine bodyPost_ret (results_dateIn rfl (by rw [e1]; exact heap_alloc_new _ _)) rfl ?_
  exact ⟨rfl, HB.out⟩
set_option maxRecDepth 100000 in
set_option maxHeartbeats 2000000 in
theorem isHol_no (k y m d v n : Int) (hs : eqHo ⟨k, y, m, d, v, n⟩ (strip ⟨k, y, m, d, v, n⟩) = false) (w : World) (hT : Tabs w) :
    Calls Tryd.prog 33 #[.agg (hoC k y m d v n)] w fun e w' => e = .returned (.bool false) ∧ Below w.heap.size w w' := by
  have z0 := heap_alloc_new w (.cells (hoC k y m d v n) 50)
  have HB := Lib.hid ((Below.refl _ w).alloc (Nat.le_refl _) (.cells (hoC k y m d v n) 50))
  have HS := Lib.hid (stripped_any ⟨k, y, m, d, v, n⟩)
  have q1 : (w.alloc (.cells (hoC k y m d v n) 50)).drew.cell? ⟨w.heap.size, 0, none⟩ = some (.int .i64 k) ∧ (w.alloc (.cells (hoC k y m d v n) 50)).drew.cell? ⟨w.heap.size, 1, none⟩ = some (.int .i64 y) ∧ (w.alloc (.cells (hoC k y m d v n) 50)).drew.cell? ⟨w.heap.size, 2, none⟩ = some (.int .i64 m) ∧ (w.alloc (.cells (hoC k y m d v n) 50)).drew.cell? ⟨w.heap.size, 3, none⟩ = some (.int .i64 d) ∧ (w.alloc (.cells (hoC k y m d v n) 50)).drew.cell? ⟨w.heap.size, 4, none⟩ = some (.int .i64 v) ∧ (w.alloc (.cells (hoC k y m d v n) 50)).drew.cell? ⟨w.heap.size, 5, none⟩ = some (.int .i64 n) := hcells6 z0
  have HQ := Lib.hid z0
  have HN := Lib.hid (fun W => neq_ho ⟨k, y, m, d, v, n⟩ (strip ⟨k, y, m, d, v, n⟩) W)
  obtain ⟨a0, a1, a2, a3, a4, a5⟩ := hcells6 z0
  rw [hs] at HN
  clear hs z0
  go_enter Tryd.func33, Tryd.ntmps33
  go_wp2_with fail
  go_region_held3 (fun w' => w'.cell? ⟨w.heap.size, 0, none⟩ = some (.int .i64 k) ∧ w'.cell? ⟨w.heap.size, 1, none⟩ = some (.int .i64 y) ∧ w'.cell? ⟨w.heap.size, 2, none⟩ = some (.int .i64 m) ∧ w'.cell? ⟨w.heap.size, 3, none⟩ = some (.int .i64 d) ∧ w'.cell? ⟨w.heap.size, 4, none⟩ = some (.int .i64 v) ∧ w'.cell? ⟨w.heap.size, 5, none⟩ = some (.int .i64 n))
    (first | (with_reducible exact q1) | (with_reducible exact q2) | go_keep)
    (first
      | (go_at_call 53; ((with_reducible refine (HS.out _).mono ?_); rintro e w2' ⟨rfl, hB2⟩; have g2 := (hB2.block w.heap.size (Array.getElem?_eq_some_iff.1 HQ.out).1).trans HQ.out; have q2 : w2'.cell? ⟨w.heap.size, 0, none⟩ = some (.int .i64 k) ∧ w2'.cell? ⟨w.heap.size, 1, none⟩ = some (.int .i64 y) ∧ w2'.cell? ⟨w.heap.size, 2, none⟩ = some (.int .i64 m) ∧ w2'.cell? ⟨w.heap.size, 3, none⟩ = some (.int .i64 d) ∧ w2'.cell? ⟨w.heap.size, 4, none⟩ = some (.int .i64 v) ∧ w2'.cell? ⟨w.heap.size, 5, none⟩ = some (.int .i64 n) := hcells6 g2; have HX := Lib.hid hB2; have HN2 := HN.out)))
  · have HB2 := Lib.hid (HB.out.drew.trans (HX.out.mono HB.out.drew.size))
    have hT2 := hT.next HB2.out
    have G2 := Lib.hid g2
    have f1 := frozen_of_row w2' w.heap.size 1 _ _ g2
    obtain ⟨y0, y1, y2, y3, y4, y5⟩ := q2
    rename_i hHeld
    clear hHeld q1 HX HQ HS HN a0 a1 a2 a3 a4 a5 HB g2 hB2 hT
    go_wp2
    go_ret
    exact ⟨rfl, HB2.out⟩
set_option maxRecDepth 100000 in
set_option maxHeartbeats 2000000 in
theorem isHol_0 (k y m d v n : Int) (h1 : k ≠ 1) (h2 : k ≠ 2) (h3 : k ≠ 3) (h4 : k ≠ 4) (hs : eqHo ⟨k, y, m, d, v, n⟩ (strip ⟨k, y, m, d, v, n⟩) = true) (w : World) (hT : Tabs w) :
    Calls Tryd.prog 33 #[.agg (hoC k y m d v n)] w fun e w' => e = .returned (.bool false) ∧ Below w.heap.size w w' := by
  have z0 := heap_alloc_new w (.cells (hoC k y m d v n) 50)
  have HB := Lib.hid ((Below.refl _ w).alloc (Nat.le_refl _) (.cells (hoC k y m d v n) 50))
  have HS := Lib.hid (stripped_any ⟨k, y, m, d, v, n⟩)
  have q1 : (w.alloc (.cells (hoC k y m d v n) 50)).drew.cell? ⟨w.heap.size, 0, none⟩ = some (.int .i64 k) ∧ (w.alloc (.cells (hoC k y m d v n) 50)).drew.cell? ⟨w.heap.size, 1, none⟩ = some (.int .i64 y) ∧ (w.alloc (.cells (hoC k y m d v n) 50)).drew.cell? ⟨w.heap.size, 2, none⟩ = some (.int .i64 m) ∧ (w.alloc (.cells (hoC k y m d v n) 50)).drew.cell? ⟨w.heap.size, 3, none⟩ = some (.int .i64 d) ∧ (w.alloc (.cells (hoC k y m d v n) 50)).drew.cell? ⟨w.heap.size, 4, none⟩ = some (.int .i64 v) ∧ (w.alloc (.cells (hoC k y m d v n) 50)).drew.cell? ⟨w.heap.size, 5, none⟩ = some (.int .i64 n) := hcells6 z0
  have HQ := Lib.hid z0
  have HN := Lib.hid (fun W => neq_ho ⟨k, y, m, d, v, n⟩ (strip ⟨k, y, m, d, v, n⟩) W)
  obtain ⟨a0, a1, a2, a3, a4, a5⟩ := hcells6 z0
  rw [hs] at HN
  clear hs z0
  go_enter Tryd.func33, Tryd.ntmps33
  go_wp2_with fail
  go_region_held3 (fun w' => w'.cell? ⟨w.heap.size, 0, none⟩ = some (.int .i64 k) ∧ w'.cell? ⟨w.heap.size, 1, none⟩ = some (.int .i64 y) ∧ w'.cell? ⟨w.heap.size, 2, none⟩ = some (.int .i64 m) ∧ w'.cell? ⟨w.heap.size, 3, none⟩ = some (.int .i64 d) ∧ w'.cell? ⟨w.heap.size, 4, none⟩ = some (.int .i64 v) ∧ w'.cell? ⟨w.heap.size, 5, none⟩ = some (.int .i64 n))
    (first | (with_reducible exact q1) | (with_reducible exact q2) | go_keep)
    (first
      | (go_at_call 53; ((with_reducible refine (HS.out _).mono ?_); rintro e w2' ⟨rfl, hB2⟩; have g2 := (hB2.block w.heap.size (Array.getElem?_eq_some_iff.1 HQ.out).1).trans HQ.out; have q2 : w2'.cell? ⟨w.heap.size, 0, none⟩ = some (.int .i64 k) ∧ w2'.cell? ⟨w.heap.size, 1, none⟩ = some (.int .i64 y) ∧ w2'.cell? ⟨w.heap.size, 2, none⟩ = some (.int .i64 m) ∧ w2'.cell? ⟨w.heap.size, 3, none⟩ = some (.int .i64 d) ∧ w2'.cell? ⟨w.heap.size, 4, none⟩ = some (.int .i64 v) ∧ w2'.cell? ⟨w.heap.size, 5, none⟩ = some (.int .i64 n) := hcells6 g2; have HX := Lib.hid hB2; have HN2 := HN.out)))
  · have HB2 := Lib.hid (HB.out.drew.trans (HX.out.mono HB.out.drew.size))
    have hT2 := hT.next HB2.out
    have G2 := Lib.hid g2
    have f1 := frozen_of_row w2' w.heap.size 1 _ _ g2
    obtain ⟨y0, y1, y2, y3, y4, y5⟩ := q2
    rename_i hHeld
    clear hHeld q1 HX HQ HS HN a0 a1 a2 a3 a4 a5 HB g2 hB2 hT
    go_wp2
    go_ret
    exact ⟨rfl, HB2.out⟩
set_option maxRecDepth 100000 in
set_option maxHeartbeats 2000000 in
theorem isHol_2yes (y m d v n : Int) (hm : May y m d) (hs : eqHo ⟨2, y, m, d, v, n⟩ (strip ⟨2, y, m, d, v, n⟩) = true) (w : World) (hT : Tabs w) :
    Calls Tryd.prog 33 #[.agg (hoC 2 y m d v n)] w fun e w' => e = .returned (.bool true) ∧ Below w.heap.size w w' := by
  have z0 := heap_alloc_new w (.cells (hoC 2 y m d v n) 50)
  have HB := Lib.hid ((Below.refl _ w).alloc (Nat.le_refl _) (.cells (hoC 2 y m d v n) 50))
  have HS := Lib.hid (stripped_any ⟨2, y, m, d, v, n⟩)
  have q1 : (w.alloc (.cells (hoC 2 y m d v n) 50)).drew.cell? ⟨w.heap.size, 0, none⟩ = some (.int .i64 2) ∧ (w.alloc (.cells (hoC 2 y m d v n) 50)).drew.cell? ⟨w.heap.size, 1, none⟩ = some (.int .i64 y) ∧ (w.alloc (.cells (hoC 2 y m d v n) 50)).drew.cell? ⟨w.heap.size, 2, none⟩ = some (.int .i64 m) ∧ (w.alloc (.cells (hoC 2 y m d v n) 50)).drew.cell? ⟨w.heap.size, 3, none⟩ = some (.int .i64 d) ∧ (w.alloc (.cells (hoC 2 y m d v n) 50)).drew.cell? ⟨w.heap.size, 4, none⟩ = some (.int .i64 v) ∧ (w.alloc (.cells (hoC 2 y m d v n) 50)).drew.cell? ⟨w.heap.size, 5, none⟩ = some (.int .i64 n) := hcells6 z0
  have HQ := Lib.hid z0
  have HN := Lib.hid (fun W => neq_ho ⟨2, y, m, d, v, n⟩ (strip ⟨2, y, m, d, v, n⟩) W)
  obtain ⟨a0, a1, a2, a3, a4, a5⟩ := hcells6 z0
  rw [hs] at HN
  clear hs z0
  go_enter Tryd.func33, Tryd.ntmps33
  go_wp2_with fail
  go_region_held3 (fun w' => w'.cell? ⟨w.heap.size, 0, none⟩ = some (.int .i64 2) ∧ w'.cell? ⟨w.heap.size, 1, none⟩ = some (.int .i64 y) ∧ w'.cell? ⟨w.heap.size, 2, none⟩ = some (.int .i64 m) ∧ w'.cell? ⟨w.heap.size, 3, none⟩ = some (.int .i64 d) ∧ w'.cell? ⟨w.heap.size, 4, none⟩ = some (.int .i64 v) ∧ w'.cell? ⟨w.heap.size, 5, none⟩ = some (.int .i64 n))
    (first | (with_reducible exact q1) | (with_reducible exact q2) | go_keep)
    (first
      | (go_at_call 53; ((with_reducible refine (HS.out _).mono ?_); rintro e w2' ⟨rfl, hB2⟩; have g2 := (hB2.block w.heap.size (Array.getElem?_eq_some_iff.1 HQ.out).1).trans HQ.out; have q2 : w2'.cell? ⟨w.heap.size, 0, none⟩ = some (.int .i64 2) ∧ w2'.cell? ⟨w.heap.size, 1, none⟩ = some (.int .i64 y) ∧ w2'.cell? ⟨w.heap.size, 2, none⟩ = some (.int .i64 m) ∧ w2'.cell? ⟨w.heap.size, 3, none⟩ = some (.int .i64 d) ∧ w2'.cell? ⟨w.heap.size, 4, none⟩ = some (.int .i64 v) ∧ w2'.cell? ⟨w.heap.size, 5, none⟩ = some (.int .i64 n) := hcells6 g2; have HX := Lib.hid hB2; have HN2 := HN.out)))
  · have HB2 := Lib.hid (HB.out.drew.trans (HX.out.mono HB.out.drew.size))
    have hT2 := hT.next HB2.out
    have G2 := Lib.hid g2
    have f1 := frozen_of_row w2' w.heap.size 1 _ _ g2
    obtain ⟨y0, y1, y2, y3, y4, y5⟩ := q2
    rename_i hHeld
    clear hHeld q1 HX HQ HS HN a0 a1 a2 a3 a4 a5 HB g2 hB2 hT
    go_wp2_with (first
      | (go_at_call 54; refine (dateIn_any ⟨2, y, m, d, v, n⟩ _).mono ?_; rintro e w3 ⟨rfl, hB3⟩; have HB3 := Lib.hid hB3; have hT3 := hT2.next hB3; clear hB3)
      | (go_at_call 49; refine (check_any _ _ _ _ hT3).mono ?_; rintro e w4 ⟨rfl, hB4⟩; rw [mayE_yes hm]; have HB4 := Lib.hid hB4; clear hB4))
    go_ret
    exact ⟨rfl, (HB2.out.trans (HB3.out.mono HB2.out.size)).trans (HB4.out.mono (HB2.out.trans (HB3.out.mono HB2.out.size)).size)⟩
set_option maxRecDepth 100000 in
set_option maxHeartbeats 2000000 in
theorem isHol_1yes (y m d v n : Int) (hm : May 2000 m d) (hs : eqHo ⟨1, y, m, d, v, n⟩ (strip ⟨1, y, m, d, v, n⟩) = true) (w : World) (hT : Tabs w) :
    Calls Tryd.prog 33 #[.agg (hoC 1 y m d v n)] w fun e w' => e = .returned (.bool true) ∧ Below w.heap.size w w' := by
  have z0 := heap_alloc_new w (.cells (hoC 1 y m d v n) 50)
  have HB := Lib.hid ((Below.refl _ w).alloc (Nat.le_refl _) (.cells (hoC 1 y m d v n) 50))
  have HS := Lib.hid (stripped_any ⟨1, y, m, d, v, n⟩)
  have q1 : (w.alloc (.cells (hoC 1 y m d v n) 50)).drew.cell? ⟨w.heap.size, 0, none⟩ = some (.int .i64 1) ∧ (w.alloc (.cells (hoC 1 y m d v n) 50)).drew.cell? ⟨w.heap.size, 1, none⟩ = some (.int .i64 y) ∧ (w.alloc (.cells (hoC 1 y m d v n) 50)).drew.cell? ⟨w.heap.size, 2, none⟩ = some (.int .i64 m) ∧ (w.alloc (.cells (hoC 1 y m d v n) 50)).drew.cell? ⟨w.heap.size, 3, none⟩ = some (.int .i64 d) ∧ (w.alloc (.cells (hoC 1 y m d v n) 50)).drew.cell? ⟨w.heap.size, 4, none⟩ = some (.int .i64 v) ∧ (w.alloc (.cells (hoC 1 y m d v n) 50)).drew.cell? ⟨w.heap.size, 5, none⟩ = some (.int .i64 n) := hcells6 z0
  have HQ := Lib.hid z0
  have hw0 : 1 ≤ w.heap.size := hT.lt
  have HN := Lib.hid (fun W => neq_ho ⟨1, y, m, d, v, n⟩ (strip ⟨1, y, m, d, v, n⟩) W)
  obtain ⟨a0, a1, a2, a3, a4, a5⟩ := hcells6 z0
  rw [hs] at HN
  clear hs z0
  go_enter Tryd.func33, Tryd.ntmps33
  go_wp2_with fail
  go_region_held3 (fun w' => w'.cell? ⟨w.heap.size, 0, none⟩ = some (.int .i64 1) ∧ w'.cell? ⟨w.heap.size, 1, none⟩ = some (.int .i64 y) ∧ w'.cell? ⟨w.heap.size, 2, none⟩ = some (.int .i64 m) ∧ w'.cell? ⟨w.heap.size, 3, none⟩ = some (.int .i64 d) ∧ w'.cell? ⟨w.heap.size, 4, none⟩ = some (.int .i64 v) ∧ w'.cell? ⟨w.heap.size, 5, none⟩ = some (.int .i64 n))
    (first | (with_reducible exact q1) | (with_reducible exact q2) | go_keep)
    (first
      | (go_at_call 53; ((with_reducible refine (HS.out _).mono ?_); rintro e w2' ⟨rfl, hB2⟩; have g2 := (hB2.block w.heap.size (Array.getElem?_eq_some_iff.1 HQ.out).1).trans HQ.out; have q2 : w2'.cell? ⟨w.heap.size, 0, none⟩ = some (.int .i64 1) ∧ w2'.cell? ⟨w.heap.size, 1, none⟩ = some (.int .i64 y) ∧ w2'.cell? ⟨w.heap.size, 2, none⟩ = some (.int .i64 m) ∧ w2'.cell? ⟨w.heap.size, 3, none⟩ = some (.int .i64 d) ∧ w2'.cell? ⟨w.heap.size, 4, none⟩ = some (.int .i64 v) ∧ w2'.cell? ⟨w.heap.size, 5, none⟩ = some (.int .i64 n) := hcells6 g2; have HX := Lib.hid hB2; have HN2 := HN.out)))
  · have HB2 := Lib.hid (HB.out.drew.trans (HX.out.mono HB.out.drew.size))
    have hT2 := hT.next HB2.out
    have G2 := Lib.hid g2
    have f1 := frozen_of_row w2' w.heap.size 1 _ _ g2
    obtain ⟨y0, y1, y2, y3, y4, y5⟩ := q2
    rename_i hHeld
    clear hHeld q1 HX HQ HS HN a0 a1 a2 a3 a4 a5 HB g2 hB2 hT
    have hBs := HB2.out.setCell (p := ⟨w.heap.size, 1, none⟩) (by simp) (.int .i64 2000)
    have HBS := Lib.hid hBs
    have HTS := Lib.hid (Tabs.below hT2 (B := 1) (by omega) ((Below.refl 1 w2').setCell (p := ⟨w.heap.size, 1, none⟩) hw0 (.int .i64 2000)))
    clear hBs
    go_wp2_with (first
      | (go_at_call 54; refine (dateIn_any ⟨1, 2000, m, d, v, n⟩ _).mono ?_; rintro e w3 ⟨rfl, hB3⟩; have HB3 := Lib.hid hB3; have hT3 := HTS.out.next hB3; clear hB3)
      | (go_at_call 49; refine (check_any _ _ _ _ hT3).mono ?_; rintro e w4 ⟨rfl, hB4⟩; rw [mayE_yes hm]; have HB4 := Lib.hid hB4; clear hB4))
    go_ret
    exact ⟨rfl, (HBS.out.trans (HB3.out.mono HBS.out.size)).trans (HB4.out.mono (HBS.out.trans (HB3.out.mono HBS.out.size)).size)⟩
set_option maxRecDepth 100000 in
set_option maxHeartbeats 2000000 in
theorem isHol_2no (y m d v n : Int) (hm : ¬ May y m d) (hs : eqHo ⟨2, y, m, d, v, n⟩ (strip ⟨2, y, m, d, v, n⟩) = true) (w : World) (hT : Tabs w) :
    Calls Tryd.prog 33 #[.agg (hoC 2 y m d v n)] w fun e w' => e = .returned (.bool false) ∧ Below w.heap.size w w' := by
  have z0 := heap_alloc_new w (.cells (hoC 2 y m d v n) 50)
  have HB := Lib.hid ((Below.refl _ w).alloc (Nat.le_refl _) (.cells (hoC 2 y m d v n) 50))
  have HS := Lib.hid (stripped_any ⟨2, y, m, d, v, n⟩)
  have q1 : (w.alloc (.cells (hoC 2 y m d v n) 50)).drew.cell? ⟨w.heap.size, 0, none⟩ = some (.int .i64 2) ∧ (w.alloc (.cells (hoC 2 y m d v n) 50)).drew.cell? ⟨w.heap.size, 1, none⟩ = some (.int .i64 y) ∧ (w.alloc (.cells (hoC 2 y m d v n) 50)).drew.cell? ⟨w.heap.size, 2, none⟩ = some (.int .i64 m) ∧ (w.alloc (.cells (hoC 2 y m d v n) 50)).drew.cell? ⟨w.heap.size, 3, none⟩ = some (.int .i64 d) ∧ (w.alloc (.cells (hoC 2 y m d v n) 50)).drew.cell? ⟨w.heap.size, 4, none⟩ = some (.int .i64 v) ∧ (w.alloc (.cells (hoC 2 y m d v n) 50)).drew.cell? ⟨w.heap.size, 5, none⟩ = some (.int .i64 n) := hcells6 z0
  have HQ := Lib.hid z0
  have HN := Lib.hid (fun W => neq_ho ⟨2, y, m, d, v, n⟩ (strip ⟨2, y, m, d, v, n⟩) W)
  obtain ⟨a0, a1, a2, a3, a4, a5⟩ := hcells6 z0
  rw [hs] at HN
  clear hs z0
  go_enter Tryd.func33, Tryd.ntmps33
  go_wp2_with fail
  go_region_held3 (fun w' => w'.cell? ⟨w.heap.size, 0, none⟩ = some (.int .i64 2) ∧ w'.cell? ⟨w.heap.size, 1, none⟩ = some (.int .i64 y) ∧ w'.cell? ⟨w.heap.size, 2, none⟩ = some (.int .i64 m) ∧ w'.cell? ⟨w.heap.size, 3, none⟩ = some (.int .i64 d) ∧ w'.cell? ⟨w.heap.size, 4, none⟩ = some (.int .i64 v) ∧ w'.cell? ⟨w.heap.size, 5, none⟩ = some (.int .i64 n))
    (first | (with_reducible exact q1) | (with_reducible exact q2) | go_keep)
    (first
      | (go_at_call 53; ((with_reducible refine (HS.out _).mono ?_); rintro e w2' ⟨rfl, hB2⟩; have g2 := (hB2.block w.heap.size (Array.getElem?_eq_some_iff.1 HQ.out).1).trans HQ.out; have q2 : w2'.cell? ⟨w.heap.size, 0, none⟩ = some (.int .i64 2) ∧ w2'.cell? ⟨w.heap.size, 1, none⟩ = some (.int .i64 y) ∧ w2'.cell? ⟨w.heap.size, 2, none⟩ = some (.int .i64 m) ∧ w2'.cell? ⟨w.heap.size, 3, none⟩ = some (.int .i64 d) ∧ w2'.cell? ⟨w.heap.size, 4, none⟩ = some (.int .i64 v) ∧ w2'.cell? ⟨w.heap.size, 5, none⟩ = some (.int .i64 n) := hcells6 g2; have HX := Lib.hid hB2; have HN2 := HN.out)))
  · have HB2 := Lib.hid (HB.out.drew.trans (HX.out.mono HB.out.drew.size))
    have hT2 := hT.next HB2.out
    have G2 := Lib.hid g2
    have f1 := frozen_of_row w2' w.heap.size 1 _ _ g2
    obtain ⟨y0, y1, y2, y3, y4, y5⟩ := q2
    rename_i hHeld
    clear hHeld q1 HX HQ HS HN a0 a1 a2 a3 a4 a5 HB g2 hB2 hT
    go_wp2_with (first
      | (go_at_call 54; refine (dateIn_any ⟨2, y, m, d, v, n⟩ _).mono ?_; rintro e w3 ⟨rfl, hB3⟩; have HB3 := Lib.hid hB3; have hT3 := hT2.next hB3; clear hB3)
      | (go_at_call 49; refine (check_any _ _ _ _ hT3).mono ?_; rintro e w4 ⟨rfl, hB4⟩; rw [mayE_no hm]; have HB4 := Lib.hid hB4; clear hB4))
    go_ret
    exact ⟨rfl, (HB2.out.trans (HB3.out.mono HB2.out.size)).trans (HB4.out.mono (HB2.out.trans (HB3.out.mono HB2.out.size)).size)⟩
set_option maxRecDepth 100000 in
set_option maxHeartbeats 2000000 in
theorem isHol_1no (y m d v n : Int) (hm : ¬ May 2000 m d) (hs : eqHo ⟨1, y, m, d, v, n⟩ (strip ⟨1, y, m, d, v, n⟩) = true) (w : World) (hT : Tabs w) :
    Calls Tryd.prog 33 #[.agg (hoC 1 y m d v n)] w fun e w' => e = .returned (.bool false) ∧ Below w.heap.size w w' := by
  have z0 := heap_alloc_new w (.cells (hoC 1 y m d v n) 50)
  have HB := Lib.hid ((Below.refl _ w).alloc (Nat.le_refl _) (.cells (hoC 1 y m d v n) 50))
  have HS := Lib.hid (stripped_any ⟨1, y, m, d, v, n⟩)
  have q1 : (w.alloc (.cells (hoC 1 y m d v n) 50)).drew.cell? ⟨w.heap.size, 0, none⟩ = some (.int .i64 1) ∧ (w.alloc (.cells (hoC 1 y m d v n) 50)).drew.cell? ⟨w.heap.size, 1, none⟩ = some (.int .i64 y) ∧ (w.alloc (.cells (hoC 1 y m d v n) 50)).drew.cell? ⟨w.heap.size, 2, none⟩ = some (.int .i64 m) ∧ (w.alloc (.cells (hoC 1 y m d v n) 50)).drew.cell? ⟨w.heap.size, 3, none⟩ = some (.int .i64 d) ∧ (w.alloc (.cells (hoC 1 y m d v n) 50)).drew.cell? ⟨w.heap.size, 4, none⟩ = some (.int .i64 v) ∧ (w.alloc (.cells (hoC 1 y m d v n) 50)).drew.cell? ⟨w.heap.size, 5, none⟩ = some (.int .i64 n) := hcells6 z0
  have HQ := Lib.hid z0
  have hw0 : 1 ≤ w.heap.size := hT.lt
  have HN := Lib.hid (fun W => neq_ho ⟨1, y, m, d, v, n⟩ (strip ⟨1, y, m, d, v, n⟩) W)
  obtain ⟨a0, a1, a2, a3, a4, a5⟩ := hcells6 z0
  rw [hs] at HN
  clear hs z0
  go_enter Tryd.func33, Tryd.ntmps33
  go_wp2_with fail
  go_region_held3 (fun w' => w'.cell? ⟨w.heap.size, 0, none⟩ = some (.int .i64 1) ∧ w'.cell? ⟨w.heap.size, 1, none⟩ = some (.int .i64 y) ∧ w'.cell? ⟨w.heap.size, 2, none⟩ = some (.int .i64 m) ∧ w'.cell? ⟨w.heap.size, 3, none⟩ = some (.int .i64 d) ∧ w'.cell? ⟨w.heap.size, 4, none⟩ = some (.int .i64 v) ∧ w'.cell? ⟨w.heap.size, 5, none⟩ = some (.int .i64 n))
    (first | (with_reducible exact q1) | (with_reducible exact q2) | go_keep)
    (first
      | (go_at_call 53; ((with_reducible refine (HS.out _).mono ?_); rintro e w2' ⟨rfl, hB2⟩; have g2 := (hB2.block w.heap.size (Array.getElem?_eq_some_iff.1 HQ.out).1).trans HQ.out; have q2 : w2'.cell? ⟨w.heap.size, 0, none⟩ = some (.int .i64 1) ∧ w2'.cell? ⟨w.heap.size, 1, none⟩ = some (.int .i64 y) ∧ w2'.cell? ⟨w.heap.size, 2, none⟩ = some (.int .i64 m) ∧ w2'.cell? ⟨w.heap.size, 3, none⟩ = some (.int .i64 d) ∧ w2'.cell? ⟨w.heap.size, 4, none⟩ = some (.int .i64 v) ∧ w2'.cell? ⟨w.heap.size, 5, none⟩ = some (.int .i64 n) := hcells6 g2; have HX := Lib.hid hB2; have HN2 := HN.out)))
  · have HB2 := Lib.hid (HB.out.drew.trans (HX.out.mono HB.out.drew.size))
    have hT2 := hT.next HB2.out
    have G2 := Lib.hid g2
    have f1 := frozen_of_row w2' w.heap.size 1 _ _ g2
    obtain ⟨y0, y1, y2, y3, y4, y5⟩ := q2
    rename_i hHeld
    clear hHeld q1 HX HQ HS HN a0 a1 a2 a3 a4 a5 HB g2 hB2 hT
    have hBs := HB2.out.setCell (p := ⟨w.heap.size, 1, none⟩) (by simp) (.int .i64 2000)
    have HBS := Lib.hid hBs
    have HTS := Lib.hid (Tabs.below hT2 (B := 1) (by omega) ((Below.refl 1 w2').setCell (p := ⟨w.heap.size, 1, none⟩) hw0 (.int .i64 2000)))
    clear hBs
    go_wp2_with (first
      | (go_at_call 54; refine (dateIn_any ⟨1, 2000, m, d, v, n⟩ _).mono ?_; rintro e w3 ⟨rfl, hB3⟩; have HB3 := Lib.hid hB3; have hT3 := HTS.out.next hB3; clear hB3)
      | (go_at_call 49; refine (check_any _ _ _ _ hT3).mono ?_; rintro e w4 ⟨rfl, hB4⟩; rw [mayE_no hm]; have HB4 := Lib.hid hB4; clear hB4))
    go_ret
    exact ⟨rfl, (HBS.out.trans (HB3.out.mono HBS.out.size)).trans (HB4.out.mono (HBS.out.trans (HB3.out.mono HBS.out.size)).size)⟩
set_option maxRecDepth 100000 in
set_option maxHeartbeats 2000000 in
theorem isHol_4yes (y m d v n : Int) (hm : decide (-100 ≤ n ∧ n ≤ 200) = true) (hs : eqHo ⟨4, y, m, d, v, n⟩ (strip ⟨4, y, m, d, v, n⟩) = true) (w : World) (hT : Tabs w) :
    Calls Tryd.prog 33 #[.agg (hoC 4 y m d v n)] w fun e w' => e = .returned (.bool true) ∧ Below w.heap.size w w' := by
  have z0 := heap_alloc_new w (.cells (hoC 4 y m d v n) 50)
  have HB := Lib.hid ((Below.refl _ w).alloc (Nat.le_refl _) (.cells (hoC 4 y m d v n) 50))
  have HS := Lib.hid (stripped_any ⟨4, y, m, d, v, n⟩)
  have q1 : (w.alloc (.cells (hoC 4 y m d v n) 50)).drew.cell? ⟨w.heap.size, 0, none⟩ = some (.int .i64 4) ∧ (w.alloc (.cells (hoC 4 y m d v n) 50)).drew.cell? ⟨w.heap.size, 1, none⟩ = some (.int .i64 y) ∧ (w.alloc (.cells (hoC 4 y m d v n) 50)).drew.cell? ⟨w.heap.size, 2, none⟩ = some (.int .i64 m) ∧ (w.alloc (.cells (hoC 4 y m d v n) 50)).drew.cell? ⟨w.heap.size, 3, none⟩ = some (.int .i64 d) ∧ (w.alloc (.cells (hoC 4 y m d v n) 50)).drew.cell? ⟨w.heap.size, 4, none⟩ = some (.int .i64 v) ∧ (w.alloc (.cells (hoC 4 y m d v n) 50)).drew.cell? ⟨w.heap.size, 5, none⟩ = some (.int .i64 n) := hcells6 z0
  have HQ := Lib.hid z0
  have HN := Lib.hid (fun W => neq_ho ⟨4, y, m, d, v, n⟩ (strip ⟨4, y, m, d, v, n⟩) W)
  obtain ⟨a0, a1, a2, a3, a4, a5⟩ := hcells6 z0
  rw [hs] at HN
  clear hs z0
  go_enter Tryd.func33, Tryd.ntmps33
  go_wp2_with fail
  go_region_held3 (fun w' => w'.cell? ⟨w.heap.size, 0, none⟩ = some (.int .i64 4) ∧ w'.cell? ⟨w.heap.size, 1, none⟩ = some (.int .i64 y) ∧ w'.cell? ⟨w.heap.size, 2, none⟩ = some (.int .i64 m) ∧ w'.cell? ⟨w.heap.size, 3, none⟩ = some (.int .i64 d) ∧ w'.cell? ⟨w.heap.size, 4, none⟩ = some (.int .i64 v) ∧ w'.cell? ⟨w.heap.size, 5, none⟩ = some (.int .i64 n))
    (first | (with_reducible exact q1) | (with_reducible exact q2) | go_keep)
    (first
      | (go_at_call 53; ((with_reducible refine (HS.out _).mono ?_); rintro e w2' ⟨rfl, hB2⟩; have g2 := (hB2.block w.heap.size (Array.getElem?_eq_some_iff.1 HQ.out).1).trans HQ.out; have q2 : w2'.cell? ⟨w.heap.size, 0, none⟩ = some (.int .i64 4) ∧ w2'.cell? ⟨w.heap.size, 1, none⟩ = some (.int .i64 y) ∧ w2'.cell? ⟨w.heap.size, 2, none⟩ = some (.int .i64 m) ∧ w2'.cell? ⟨w.heap.size, 3, none⟩ = some (.int .i64 d) ∧ w2'.cell? ⟨w.heap.size, 4, none⟩ = some (.int .i64 v) ∧ w2'.cell? ⟨w.heap.size, 5, none⟩ = some (.int .i64 n) := hcells6 g2; have HX := Lib.hid hB2; have HN2 := HN.out)))
  · have HB2 := Lib.hid (HB.out.drew.trans (HX.out.mono HB.out.drew.size))
    have hT2 := hT.next HB2.out
    have G2 := Lib.hid g2
    have f1 := frozen_of_row w2' w.heap.size 1 _ _ g2
    obtain ⟨y0, y1, y2, y3, y4, y5⟩ := q2
    rename_i hHeld
    clear hHeld q1 HX HQ HS HN a0 a1 a2 a3 a4 a5 HB g2 hB2 hT
    go_wp2_with (go_at_call 55; refine (isFrom_any _ _ _ _).mono ?_; rintro e w3 ⟨rfl, rfl⟩; rw [hm])
    go_ret
    exact ⟨rfl, HB2.out⟩
set_option maxRecDepth 100000 in
set_option maxHeartbeats 2000000 in
theorem isHol_4no (y m d v n : Int) (hm : decide (-100 ≤ n ∧ n ≤ 200) = false) (hs : eqHo ⟨4, y, m, d, v, n⟩ (strip ⟨4, y, m, d, v, n⟩) = true) (w : World) (hT : Tabs w) :
    Calls Tryd.prog 33 #[.agg (hoC 4 y m d v n)] w fun e w' => e = .returned (.bool false) ∧ Below w.heap.size w w' := by
  have z0 := heap_alloc_new w (.cells (hoC 4 y m d v n) 50)
  have HB := Lib.hid ((Below.refl _ w).alloc (Nat.le_refl _) (.cells (hoC 4 y m d v n) 50))
  have HS := Lib.hid (stripped_any ⟨4, y, m, d, v, n⟩)
  have q1 : (w.alloc (.cells (hoC 4 y m d v n) 50)).drew.cell? ⟨w.heap.size, 0, none⟩ = some (.int .i64 4) ∧ (w.alloc (.cells (hoC 4 y m d v n) 50)).drew.cell? ⟨w.heap.size, 1, none⟩ = some (.int .i64 y) ∧ (w.alloc (.cells (hoC 4 y m d v n) 50)).drew.cell? ⟨w.heap.size, 2, none⟩ = some (.int .i64 m) ∧ (w.alloc (.cells (hoC 4 y m d v n) 50)).drew.cell? ⟨w.heap.size, 3, none⟩ = some (.int .i64 d) ∧ (w.alloc (.cells (hoC 4 y m d v n) 50)).drew.cell? ⟨w.heap.size, 4, none⟩ = some (.int .i64 v) ∧ (w.alloc (.cells (hoC 4 y m d v n) 50)).drew.cell? ⟨w.heap.size, 5, none⟩ = some (.int .i64 n) := hcells6 z0
  have HQ := Lib.hid z0
  have HN := Lib.hid (fun W => neq_ho ⟨4, y, m, d, v, n⟩ (strip ⟨4, y, m, d, v, n⟩) W)
  obtain ⟨a0, a1, a2, a3, a4, a5⟩ := hcells6 z0
  rw [hs] at HN
  clear hs z0
  go_enter Tryd.func33, Tryd.ntmps33
  go_wp2_with fail
  go_region_held3 (fun w' => w'.cell? ⟨w.heap.size, 0, none⟩ = some (.int .i64 4) ∧ w'.cell? ⟨w.heap.size, 1, none⟩ = some (.int .i64 y) ∧ w'.cell? ⟨w.heap.size, 2, none⟩ = some (.int .i64 m) ∧ w'.cell? ⟨w.heap.size, 3, none⟩ = some (.int .i64 d) ∧ w'.cell? ⟨w.heap.size, 4, none⟩ = some (.int .i64 v) ∧ w'.cell? ⟨w.heap.size, 5, none⟩ = some (.int .i64 n))
    (first | (with_reducible exact q1) | (with_reducible exact q2) | go_keep)
    (first
      | (go_at_call 53; ((with_reducible refine (HS.out _).mono ?_); rintro e w2' ⟨rfl, hB2⟩; have g2 := (hB2.block w.heap.size (Array.getElem?_eq_some_iff.1 HQ.out).1).trans HQ.out; have q2 : w2'.cell? ⟨w.heap.size, 0, none⟩ = some (.int .i64 4) ∧ w2'.cell? ⟨w.heap.size, 1, none⟩ = some (.int .i64 y) ∧ w2'.cell? ⟨w.heap.size, 2, none⟩ = some (.int .i64 m) ∧ w2'.cell? ⟨w.heap.size, 3, none⟩ = some (.int .i64 d) ∧ w2'.cell? ⟨w.heap.size, 4, none⟩ = some (.int .i64 v) ∧ w2'.cell? ⟨w.heap.size, 5, none⟩ = some (.int .i64 n) := hcells6 g2; have HX := Lib.hid hB2; have HN2 := HN.out)))
  · have HB2 := Lib.hid (HB.out.drew.trans (HX.out.mono HB.out.drew.size))
    have hT2 := hT.next HB2.out
    have G2 := Lib.hid g2
    have f1 := frozen_of_row w2' w.heap.size 1 _ _ g2
    obtain ⟨y0, y1, y2, y3, y4, y5⟩ := q2
    rename_i hHeld
    clear hHeld q1 HX HQ HS HN a0 a1 a2 a3 a4 a5 HB g2 hB2 hT
    go_wp2_with (go_at_call 55; refine (isFrom_any _ _ _ _).mono ?_; rintro e w3 ⟨rfl, rfl⟩; rw [hm])
    go_ret
    exact ⟨rfl, HB2.out⟩
set_option maxRecDepth 100000 in
set_option maxHeartbeats 2000000 in
theorem isHol_3a (y m d v n : Int) (hm : decide (1 ≤ m ∧ m ≤ 12) = false) (hs : eqHo ⟨3, y, m, d, v, n⟩ (strip ⟨3, y, m, d, v, n⟩) = true) (w : World) (hT : Tabs w) :
    Calls Tryd.prog 33 #[.agg (hoC 3 y m d v n)] w fun e w' => e = .returned (.bool false) ∧ Below w.heap.size w w' := by
  have z0 := heap_alloc_new w (.cells (hoC 3 y m d v n) 50)
  have HB := Lib.hid ((Below.refl _ w).alloc (Nat.le_refl _) (.cells (hoC 3 y m d v n) 50))
  have HS := Lib.hid (stripped_any ⟨3, y, m, d, v, n⟩)
  have q1 : (w.alloc (.cells (hoC 3 y m d v n) 50)).drew.cell? ⟨w.heap.size, 0, none⟩ = some (.int .i64 3) ∧ (w.alloc (.cells (hoC 3 y m d v n) 50)).drew.cell? ⟨w.heap.size, 1, none⟩ = some (.int .i64 y) ∧ (w.alloc (.cells (hoC 3 y m d v n) 50)).drew.cell? ⟨w.heap.size, 2, none⟩ = some (.int .i64 m) ∧ (w.alloc (.cells (hoC 3 y m d v n) 50)).drew.cell? ⟨w.heap.size, 3, none⟩ = some (.int .i64 d) ∧ (w.alloc (.cells (hoC 3 y m d v n) 50)).drew.cell? ⟨w.heap.size, 4, none⟩ = some (.int .i64 v) ∧ (w.alloc (.cells (hoC 3 y m d v n) 50)).drew.cell? ⟨w.heap.size, 5, none⟩ = some (.int .i64 n) := hcells6 z0
  have HQ := Lib.hid z0
  have HN := Lib.hid (fun W => neq_ho ⟨3, y, m, d, v, n⟩ (strip ⟨3, y, m, d, v, n⟩) W)
  obtain ⟨a0, a1, a2, a3, a4, a5⟩ := hcells6 z0
  rw [hs] at HN
  clear hs z0
  go_enter Tryd.func33, Tryd.ntmps33
  go_wp2_with fail
  go_region_held3 (fun w' => w'.cell? ⟨w.heap.size, 0, none⟩ = some (.int .i64 3) ∧ w'.cell? ⟨w.heap.size, 1, none⟩ = some (.int .i64 y) ∧ w'.cell? ⟨w.heap.size, 2, none⟩ = some (.int .i64 m) ∧ w'.cell? ⟨w.heap.size, 3, none⟩ = some (.int .i64 d) ∧ w'.cell? ⟨w.heap.size, 4, none⟩ = some (.int .i64 v) ∧ w'.cell? ⟨w.heap.size, 5, none⟩ = some (.int .i64 n))
    (first | (with_reducible exact q1) | (with_reducible exact q2) | go_keep)
    (first
      | (go_at_call 53; ((with_reducible refine (HS.out _).mono ?_); rintro e w2' ⟨rfl, hB2⟩; have g2 := (hB2.block w.heap.size (Array.getElem?_eq_some_iff.1 HQ.out).1).trans HQ.out; have q2 : w2'.cell? ⟨w.heap.size, 0, none⟩ = some (.int .i64 3) ∧ w2'.cell? ⟨w.heap.size, 1, none⟩ = some (.int .i64 y) ∧ w2'.cell? ⟨w.heap.size, 2, none⟩ = some (.int .i64 m) ∧ w2'.cell? ⟨w.heap.size, 3, none⟩ = some (.int .i64 d) ∧ w2'.cell? ⟨w.heap.size, 4, none⟩ = some (.int .i64 v) ∧ w2'.cell? ⟨w.heap.size, 5, none⟩ = some (.int .i64 n) := hcells6 g2; have HX := Lib.hid hB2; have HN2 := HN.out)))
  · have HB2 := Lib.hid (HB.out.drew.trans (HX.out.mono HB.out.drew.size))
    have hT2 := hT.next HB2.out
    have G2 := Lib.hid g2
    have f1 := frozen_of_row w2' w.heap.size 1 _ _ g2
    obtain ⟨y0, y1, y2, y3, y4, y5⟩ := q2
    rename_i hHeld
    clear hHeld q1 HX HQ HS HN a0 a1 a2 a3 a4 a5 HB g2 hB2 hT
    go_wp2_with (go_at_call 55; refine (isFrom_any _ _ _ _).mono ?_; rintro e w3 ⟨rfl, rfl⟩; first | rw [hm])
    go_ret
    exact ⟨rfl, HB2.out⟩
set_option maxRecDepth 100000 in
set_option maxHeartbeats 2000000 in
theorem isHol_3b (y m d v n : Int) (hm : decide (1 ≤ m ∧ m ≤ 12) = true) (hv : decide (1 ≤ v ∧ v ≤ 7) = false) (hs : eqHo ⟨3, y, m, d, v, n⟩ (strip ⟨3, y, m, d, v, n⟩) = true) (w : World) (hT : Tabs w) :
    Calls Tryd.prog 33 #[.agg (hoC 3 y m d v n)] w fun e w' => e = .returned (.bool false) ∧ Below w.heap.size w w' := by
  have z0 := heap_alloc_new w (.cells (hoC 3 y m d v n) 50)
  have HB := Lib.hid ((Below.refl _ w).alloc (Nat.le_refl _) (.cells (hoC 3 y m d v n) 50))
  have HS := Lib.hid (stripped_any ⟨3, y, m, d, v, n⟩)
  have q1 : (w.alloc (.cells (hoC 3 y m d v n) 50)).drew.cell? ⟨w.heap.size, 0, none⟩ = some (.int .i64 3) ∧ (w.alloc (.cells (hoC 3 y m d v n) 50)).drew.cell? ⟨w.heap.size, 1, none⟩ = some (.int .i64 y) ∧ (w.alloc (.cells (hoC 3 y m d v n) 50)).drew.cell? ⟨w.heap.size, 2, none⟩ = some (.int .i64 m) ∧ (w.alloc (.cells (hoC 3 y m d v n) 50)).drew.cell? ⟨w.heap.size, 3, none⟩ = some (.int .i64 d) ∧ (w.alloc (.cells (hoC 3 y m d v n) 50)).drew.cell? ⟨w.heap.size, 4, none⟩ = some (.int .i64 v) ∧ (w.alloc (.cells (hoC 3 y m d v n) 50)).drew.cell? ⟨w.heap.size, 5, none⟩ = some (.int .i64 n) := hcells6 z0
  have HQ := Lib.hid z0
  have HN := Lib.hid (fun W => neq_ho ⟨3, y, m, d, v, n⟩ (strip ⟨3, y, m, d, v, n⟩) W)
  obtain ⟨a0, a1, a2, a3, a4, a5⟩ := hcells6 z0
  rw [hs] at HN
  clear hs z0
  go_enter Tryd.func33, Tryd.ntmps33
  go_wp2_with fail
  go_region_held3 (fun w' => w'.cell? ⟨w.heap.size, 0, none⟩ = some (.int .i64 3) ∧ w'.cell? ⟨w.heap.size, 1, none⟩ = some (.int .i64 y) ∧ w'.cell? ⟨w.heap.size, 2, none⟩ = some (.int .i64 m) ∧ w'.cell? ⟨w.heap.size, 3, none⟩ = some (.int .i64 d) ∧ w'.cell? ⟨w.heap.size, 4, none⟩ = some (.int .i64 v) ∧ w'.cell? ⟨w.heap.size, 5, none⟩ = some (.int .i64 n))
    (first | (with_reducible exact q1) | (with_reducible exact q2) | go_keep)
    (first
      | (go_at_call 53; ((with_reducible refine (HS.out _).mono ?_); rintro e w2' ⟨rfl, hB2⟩; have g2 := (hB2.block w.heap.size (Array.getElem?_eq_some_iff.1 HQ.out).1).trans HQ.out; have q2 : w2'.cell? ⟨w.heap.size, 0, none⟩ = some (.int .i64 3) ∧ w2'.cell? ⟨w.heap.size, 1, none⟩ = some (.int .i64 y) ∧ w2'.cell? ⟨w.heap.size, 2, none⟩ = some (.int .i64 m) ∧ w2'.cell? ⟨w.heap.size, 3, none⟩ = some (.int .i64 d) ∧ w2'.cell? ⟨w.heap.size, 4, none⟩ = some (.int .i64 v) ∧ w2'.cell? ⟨w.heap.size, 5, none⟩ = some (.int .i64 n) := hcells6 g2; have HX := Lib.hid hB2; have HN2 := HN.out)))
  · have HB2 := Lib.hid (HB.out.drew.trans (HX.out.mono HB.out.drew.size))
    have hT2 := hT.next HB2.out
    have G2 := Lib.hid g2
    have f1 := frozen_of_row w2' w.heap.size 1 _ _ g2
    obtain ⟨y0, y1, y2, y3, y4, y5⟩ := q2
    rename_i hHeld
    clear hHeld q1 HX HQ HS HN a0 a1 a2 a3 a4 a5 HB g2 hB2 hT
    go_wp2_with (go_at_call 55; refine (isFrom_any _ _ _ _).mono ?_; rintro e w3 ⟨rfl, rfl⟩; first | rw [hm] | rw [hv])
    go_ret
    exact ⟨rfl, HB2.out⟩
set_option maxRecDepth 100000 in
set_option maxHeartbeats 2000000 in
theorem isHol_3c (y m d v n : Int) (hm : decide (1 ≤ m ∧ m ≤ 12) = true) (hv : decide (1 ≤ v ∧ v ≤ 7) = true) (hn : decide (1 ≤ n ∧ n ≤ 5) = true) (hs : eqHo ⟨3, y, m, d, v, n⟩ (strip ⟨3, y, m, d, v, n⟩) = true) (w : World) (hT : Tabs w) :
    Calls Tryd.prog 33 #[.agg (hoC 3 y m d v n)] w fun e w' => e = .returned (.bool true) ∧ Below w.heap.size w w' := by
  have z0 := heap_alloc_new w (.cells (hoC 3 y m d v n) 50)
  have HB := Lib.hid ((Below.refl _ w).alloc (Nat.le_refl _) (.cells (hoC 3 y m d v n) 50))
  have HS := Lib.hid (stripped_any ⟨3, y, m, d, v, n⟩)
  have q1 : (w.alloc (.cells (hoC 3 y m d v n) 50)).drew.cell? ⟨w.heap.size, 0, none⟩ = some (.int .i64 3) ∧ (w.alloc (.cells (hoC 3 y m d v n) 50)).drew.cell? ⟨w.heap.size, 1, none⟩ = some (.int .i64 y) ∧ (w.alloc (.cells (hoC 3 y m d v n) 50)).drew.cell? ⟨w.heap.size, 2, none⟩ = some (.int .i64 m) ∧ (w.alloc (.cells (hoC 3 y m d v n) 50)).drew.cell? ⟨w.heap.size, 3, none⟩ = some (.int .i64 d) ∧ (w.alloc (.cells (hoC 3 y m d v n) 50)).drew.cell? ⟨w.heap.size, 4, none⟩ = some (.int .i64 v) ∧ (w.alloc (.cells (hoC 3 y m d v n) 50)).drew.cell? ⟨w.heap.size, 5, none⟩ = some (.int .i64 n) := hcells6 z0
  have HQ := Lib.hid z0
  have HN := Lib.hid (fun W => neq_ho ⟨3, y, m, d, v, n⟩ (strip ⟨3, y, m, d, v, n⟩) W)
  obtain ⟨a0, a1, a2, a3, a4, a5⟩ := hcells6 z0
  rw [hs] at HN
  clear hs z0
  go_enter Tryd.func33, Tryd.ntmps33
  go_wp2_with fail
  go_region_held3 (fun w' => w'.cell? ⟨w.heap.size, 0, none⟩ = some (.int .i64 3) ∧ w'.cell? ⟨w.heap.size, 1, none⟩ = some (.int .i64 y) ∧ w'.cell? ⟨w.heap.size, 2, none⟩ = some (.int .i64 m) ∧ w'.cell? ⟨w.heap.size, 3, none⟩ = some (.int .i64 d) ∧ w'.cell? ⟨w.heap.size, 4, none⟩ = some (.int .i64 v) ∧ w'.cell? ⟨w.heap.size, 5, none⟩ = some (.int .i64 n))
    (first | (with_reducible exact q1) | (with_reducible exact q2) | go_keep)
    (first
      | (go_at_call 53; ((with_reducible refine (HS.out _).mono ?_); rintro e w2' ⟨rfl, hB2⟩; have g2 := (hB2.block w.heap.size (Array.getElem?_eq_some_iff.1 HQ.out).1).trans HQ.out; have q2 : w2'.cell? ⟨w.heap.size, 0, none⟩ = some (.int .i64 3) ∧ w2'.cell? ⟨w.heap.size, 1, none⟩ = some (.int .i64 y) ∧ w2'.cell? ⟨w.heap.size, 2, none⟩ = some (.int .i64 m) ∧ w2'.cell? ⟨w.heap.size, 3, none⟩ = some (.int .i64 d) ∧ w2'.cell? ⟨w.heap.size, 4, none⟩ = some (.int .i64 v) ∧ w2'.cell? ⟨w.heap.size, 5, none⟩ = some (.int .i64 n) := hcells6 g2; have HX := Lib.hid hB2; have HN2 := HN.out)))
  · have HB2 := Lib.hid (HB.out.drew.trans (HX.out.mono HB.out.drew.size))
    have hT2 := hT.next HB2.out
    have G2 := Lib.hid g2
    have f1 := frozen_of_row w2' w.heap.size 1 _ _ g2
    obtain ⟨y0, y1, y2, y3, y4, y5⟩ := q2
    rename_i hHeld
    clear hHeld q1 HX HQ HS HN a0 a1 a2 a3 a4 a5 HB g2 hB2 hT
    go_wp2_with (go_at_call 55; refine (isFrom_any _ _ _ _).mono ?_; rintro e w3 ⟨rfl, rfl⟩; first | rw [hm] | rw [hv] | rw [hn])
    go_ret
    exact ⟨rfl, HB2.out⟩
set_option maxRecDepth 100000 in
set_option maxHeartbeats 2000000 in
theorem isHol_3d (y m d v n : Int) (hm : decide (1 ≤ m ∧ m ≤ 12) = true) (hv : decide (1 ≤ v ∧ v ≤ 7) = true) (hn : decide (1 ≤ n ∧ n ≤ 5) = false) (hl : (n == -1) = true) (hs : eqHo ⟨3, y, m, d, v, n⟩ (strip ⟨3, y, m, d, v, n⟩) = true) (w : World) (hT : Tabs w) :
    Calls Tryd.prog 33 #[.agg (hoC 3 y m d v n)] w fun e w' => e = .returned (.bool true) ∧ Below w.heap.size w w' := by
  have z0 := heap_alloc_new w (.cells (hoC 3 y m d v n) 50)
  have HB := Lib.hid ((Below.refl _ w).alloc (Nat.le_refl _) (.cells (hoC 3 y m d v n) 50))
  have HS := Lib.hid (stripped_any ⟨3, y, m, d, v, n⟩)
  have q1 : (w.alloc (.cells (hoC 3 y m d v n) 50)).drew.cell? ⟨w.heap.size, 0, none⟩ = some (.int .i64 3) ∧ (w.alloc (.cells (hoC 3 y m d v n) 50)).drew.cell? ⟨w.heap.size, 1, none⟩ = some (.int .i64 y) ∧ (w.alloc (.cells (hoC 3 y m d v n) 50)).drew.cell? ⟨w.heap.size, 2, none⟩ = some (.int .i64 m) ∧ (w.alloc (.cells (hoC 3 y m d v n) 50)).drew.cell? ⟨w.heap.size, 3, none⟩ = some (.int .i64 d) ∧ (w.alloc (.cells (hoC 3 y m d v n) 50)).drew.cell? ⟨w.heap.size, 4, none⟩ = some (.int .i64 v) ∧ (w.alloc (.cells (hoC 3 y m d v n) 50)).drew.cell? ⟨w.heap.size, 5, none⟩ = some (.int .i64 n) := hcells6 z0
  have HQ := Lib.hid z0
  have HN := Lib.hid (fun W => neq_ho ⟨3, y, m, d, v, n⟩ (strip ⟨3, y, m, d, v, n⟩) W)
  obtain ⟨a0, a1, a2, a3, a4, a5⟩ := hcells6 z0
  rw [hs] at HN
  clear hs z0
  go_enter Tryd.func33, Tryd.ntmps33
  go_wp2_with fail
  go_region_held3 (fun w' => w'.cell? ⟨w.heap.size, 0, none⟩ = some (.int .i64 3) ∧ w'.cell? ⟨w.heap.size, 1, none⟩ = some (.int .i64 y) ∧ w'.cell? ⟨w.heap.size, 2, none⟩ = some (.int .i64 m) ∧ w'.cell? ⟨w.heap.size, 3, none⟩ = some (.int .i64 d) ∧ w'.cell? ⟨w.heap.size, 4, none⟩ = some (.int .i64 v) ∧ w'.cell? ⟨w.heap.size, 5, none⟩ = some (.int .i64 n))
    (first | (with_reducible exact q1) | (with_reducible exact q2) | go_keep)
    (first
      | (go_at_call 53; ((with_reducible refine (HS.out _).mono ?_); rintro e w2' ⟨rfl, hB2⟩; have g2 := (hB2.block w.heap.size (Array.getElem?_eq_some_iff.1 HQ.out).1).trans HQ.out; have q2 : w2'.cell? ⟨w.heap.size, 0, none⟩ = some (.int .i64 3) ∧ w2'.cell? ⟨w.heap.size, 1, none⟩ = some (.int .i64 y) ∧ w2'.cell? ⟨w.heap.size, 2, none⟩ = some (.int .i64 m) ∧ w2'.cell? ⟨w.heap.size, 3, none⟩ = some (.int .i64 d) ∧ w2'.cell? ⟨w.heap.size, 4, none⟩ = some (.int .i64 v) ∧ w2'.cell? ⟨w.heap.size, 5, none⟩ = some (.int .i64 n) := hcells6 g2; have HX := Lib.hid hB2; have HN2 := HN.out)))
  · have HB2 := Lib.hid (HB.out.drew.trans (HX.out.mono HB.out.drew.size))
    have hT2 := hT.next HB2.out
    have G2 := Lib.hid g2
    have f1 := frozen_of_row w2' w.heap.size 1 _ _ g2
    obtain ⟨y0, y1, y2, y3, y4, y5⟩ := q2
    rename_i hHeld
    clear hHeld q1 HX HQ HS HN a0 a1 a2 a3 a4 a5 HB g2 hB2 hT
    go_wp2_with (go_at_call 55; refine (isFrom_any _ _ _ _).mono ?_; rintro e w3 ⟨rfl, rfl⟩; first | rw [hm] | rw [hv] | rw [hn])
    go_ret
    exact ⟨rfl, HB2.out⟩
set_option maxRecDepth 100000 in
set_option maxHeartbeats 2000000 in
theorem isHol_3e (y m d v n : Int) (hm : decide (1 ≤ m ∧ m ≤ 12) = true) (hv : decide (1 ≤ v ∧ v ≤ 7) = true) (hn : decide (1 ≤ n ∧ n ≤ 5) = false) (hl : (n == -1) = false) (hs : eqHo ⟨3, y, m, d, v, n⟩ (strip ⟨3, y, m, d, v, n⟩) = true) (w : World) (hT : Tabs w) :
    Calls Tryd.prog 33 #[.agg (hoC 3 y m d v n)] w fun e w' => e = .returned (.bool false) ∧ Below w.heap.size w w' := by
  have z0 := heap_alloc_new w (.cells (hoC 3 y m d v n) 50)
  have HB := Lib.hid ((Below.refl _ w).alloc (Nat.le_refl _) (.cells (hoC 3 y m d v n) 50))
  have HS := Lib.hid (stripped_any ⟨3, y, m, d, v, n⟩)
  have q1 : (w.alloc (.cells (hoC 3 y m d v n) 50)).drew.cell? ⟨w.heap.size, 0, none⟩ = some (.int .i64 3) ∧ (w.alloc (.cells (hoC 3 y m d v n) 50)).drew.cell? ⟨w.heap.size, 1, none⟩ = some (.int .i64 y) ∧ (w.alloc (.cells (hoC 3 y m d v n) 50)).drew.cell? ⟨w.heap.size, 2, none⟩ = some (.int .i64 m) ∧ (w.alloc (.cells (hoC 3 y m d v n) 50)).drew.cell? ⟨w.heap.size, 3, none⟩ = some (.int .i64 d) ∧ (w.alloc (.cells (hoC 3 y m d v n) 50)).drew.cell? ⟨w.heap.size, 4, none⟩ = some (.int .i64 v) ∧ (w.alloc (.cells (hoC 3 y m d v n) 50)).drew.cell? ⟨w.heap.size, 5, none⟩ = some (.int .i64 n) := hcells6 z0
  have HQ := Lib.hid z0
  have HN := Lib.hid (fun W => neq_ho ⟨3, y, m, d, v, n⟩ (strip ⟨3, y, m, d, v, n⟩) W)
  obtain ⟨a0, a1, a2, a3, a4, a5⟩ := hcells6 z0
  rw [hs] at HN
  clear hs z0
  go_enter Tryd.func33, Tryd.ntmps33
  go_wp2_with fail
  go_region_held3 (fun w' => w'.cell? ⟨w.heap.size, 0, none⟩ = some (.int .i64 3) ∧ w'.cell? ⟨w.heap.size, 1, none⟩ = some (.int .i64 y) ∧ w'.cell? ⟨w.heap.size, 2, none⟩ = some (.int .i64 m) ∧ w'.cell? ⟨w.heap.size, 3, none⟩ = some (.int .i64 d) ∧ w'.cell? ⟨w.heap.size, 4, none⟩ = some (.int .i64 v) ∧ w'.cell? ⟨w.heap.size, 5, none⟩ = some (.int .i64 n))
    (first | (with_reducible exact q1) | (with_reducible exact q2) | go_keep)
    (first
      | (go_at_call 53; ((with_reducible refine (HS.out _).mono ?_); rintro e w2' ⟨rfl, hB2⟩; have g2 := (hB2.block w.heap.size (Array.getElem?_eq_some_iff.1 HQ.out).1).trans HQ.out; have q2 : w2'.cell? ⟨w.heap.size, 0, none⟩ = some (.int .i64 3) ∧ w2'.cell? ⟨w.heap.size, 1, none⟩ = some (.int .i64 y) ∧ w2'.cell? ⟨w.heap.size, 2, none⟩ = some (.int .i64 m) ∧ w2'.cell? ⟨w.heap.size, 3, none⟩ = some (.int .i64 d) ∧ w2'.cell? ⟨w.heap.size, 4, none⟩ = some (.int .i64 v) ∧ w2'.cell? ⟨w.heap.size, 5, none⟩ = some (.int .i64 n) := hcells6 g2; have HX := Lib.hid hB2; have HN2 := HN.out)))
  · have HB2 := Lib.hid (HB.out.drew.trans (HX.out.mono HB.out.drew.size))
    have hT2 := hT.next HB2.out
    have G2 := Lib.hid g2
    have f1 := frozen_of_row w2' w.heap.size 1 _ _ g2
    obtain ⟨y0, y1, y2, y3, y4, y5⟩ := q2
    rename_i hHeld
    clear hHeld q1 HX HQ HS HN a0 a1 a2 a3 a4 a5 HB g2 hB2 hT
    go_wp2_with (go_at_call 55; refine (isFrom_any _ _ _ _).mono ?_; rintro e w3 ⟨rfl, rfl⟩; first | rw [hm] | rw [hv] | rw [hn])
    go_ret
    exact ⟨rfl, HB2.out⟩
theorem isHol_any (h : Ho) (w : World) (hT : Tabs w) :
    Calls Tryd.prog 33 #[hoV h] w fun e w' => e = .returned (.bool (decide (HoIs h))) ∧ Below w.heap.size w w' := by
  cases hs : eqHo h (strip h)
  · rw [show decide (HoIs h) = false from decide_eq_false (strip_no hs)]
    obtain ⟨k, y, m, d, v, n⟩ := h
    exact isHol_no k y m d v n hs w hT
  · have hz := strip_yes hs
    obtain ⟨k, y, m, d, v, n⟩ := h
    by_cases h1 : k = 1
    · subst h1
      obtain ⟨rfl, rfl, rfl⟩ := hz.1 rfl
      by_cases hm : May 2000 m d
      · rw [show decide (HoIs ⟨1, 0, m, d, 0, 0⟩) = true from decide_eq_true (.inl ⟨rfl, rfl, rfl, rfl, hm⟩)]
        exact isHol_1yes 0 m d 0 0 hm hs w hT
      · rw [show decide (HoIs ⟨1, 0, m, d, 0, 0⟩) = false from decide_eq_false (by rintro (⟨_, _, _, _, h⟩ | ⟨h, _⟩ | ⟨h, _⟩ | ⟨h, _⟩) <;> first | exact hm h | exact absurd h (by simp))]
        exact isHol_1no 0 m d 0 0 hm hs w hT
    · by_cases h2 : k = 2
      · subst h2
        obtain ⟨rfl, rfl⟩ := hz.2.1 rfl
        by_cases hm : May y m d
        · rw [show decide (HoIs ⟨2, y, m, d, 0, 0⟩) = true from decide_eq_true (.inr (.inl ⟨rfl, rfl, rfl, hm⟩))]
          exact isHol_2yes y m d 0 0 hm hs w hT
        · rw [show decide (HoIs ⟨2, y, m, d, 0, 0⟩) = false from decide_eq_false (by rintro (⟨h, _⟩ | ⟨_, _, _, h⟩ | ⟨h, _⟩ | ⟨h, _⟩) <;> first | exact hm h | exact absurd h (by simp))]
          exact isHol_2no y m d 0 0 hm hs w hT
      · by_cases h3 : k = 3
        · subst h3
          obtain ⟨rfl, rfl⟩ := hz.2.2.1 rfl
          by_cases cm : 1 ≤ m ∧ m ≤ 12
          · by_cases cv : 1 ≤ v ∧ v ≤ 7
            · by_cases cn : 1 ≤ n ∧ n ≤ 5
              · rw [show decide (HoIs ⟨3, 0, m, 0, v, n⟩) = true from decide_eq_true (.inr (.inr (.inl ⟨rfl, rfl, rfl, cm, cv, .inr cn⟩)))]
                exact isHol_3c 0 m 0 v n (decide_eq_true cm) (decide_eq_true cv) (decide_eq_true cn) hs w hT
              · by_cases cl : n = -1
                · rw [show decide (HoIs ⟨3, 0, m, 0, v, n⟩) = true from decide_eq_true (.inr (.inr (.inl ⟨rfl, rfl, rfl, cm, cv, .inl cl⟩)))]
                  exact isHol_3d 0 m 0 v n (decide_eq_true cm) (decide_eq_true cv) (decide_eq_false cn) (by simp [cl]) hs w hT
                · rw [show decide (HoIs ⟨3, 0, m, 0, v, n⟩) = false from decide_eq_false (by rintro (⟨h, _⟩ | ⟨h, _⟩ | ⟨_, _, _, _, _, h⟩ | ⟨h, _⟩) <;> first | (rcases h with h | h <;> first | exact cl h | exact cn h) | exact absurd h (by simp))]
                  exact isHol_3e 0 m 0 v n (decide_eq_true cm) (decide_eq_true cv) (decide_eq_false cn) (by simp [cl]) hs w hT
            · rw [show decide (HoIs ⟨3, 0, m, 0, v, n⟩) = false from decide_eq_false (by rintro (⟨h, _⟩ | ⟨h, _⟩ | ⟨_, _, _, _, h, _⟩ | ⟨h, _⟩) <;> first | exact cv h | exact absurd h (by simp))]
              exact isHol_3b 0 m 0 v n (decide_eq_true cm) (decide_eq_false cv) hs w hT
          · rw [show decide (HoIs ⟨3, 0, m, 0, v, n⟩) = false from decide_eq_false (by rintro (⟨h, _⟩ | ⟨h, _⟩ | ⟨_, _, _, h, _⟩ | ⟨h, _⟩) <;> first | exact cm h | exact absurd h (by simp))]
            exact isHol_3a 0 m 0 v n (decide_eq_false cm) hs w hT
        · by_cases h4 : k = 4
          · subst h4
            obtain ⟨rfl, rfl, rfl, rfl⟩ := hz.2.2.2 rfl
            by_cases cn : -100 ≤ n ∧ n ≤ 200
            · rw [show decide (HoIs ⟨4, 0, 0, 0, 0, n⟩) = true from decide_eq_true (.inr (.inr (.inr ⟨rfl, rfl, rfl, rfl, rfl, cn⟩)))]
              exact isHol_4yes 0 0 0 0 n (decide_eq_true cn) hs w hT
            · rw [show decide (HoIs ⟨4, 0, 0, 0, 0, n⟩) = false from decide_eq_false (by rintro (⟨h, _⟩ | ⟨h, _⟩ | ⟨h, _⟩ | ⟨_, _, _, _, _, h⟩) <;> first | exact cn h | exact absurd h (by simp))]
              exact isHol_4no 0 0 0 0 n (decide_eq_false cn) hs w hT
          · rw [show decide (HoIs ⟨k, y, m, d, v, n⟩) = false from decide_eq_false (by rintro (⟨h, _⟩ | ⟨h, _⟩ | ⟨h, _⟩ | ⟨h, _⟩) <;> first | exact h1 h | exact h2 h | exact h3 h | exact h4 h)]
            exact isHol_0 k y m d v n h1 h2 h3 h4 hs w hT
abbrev seV (s : Se) : Value := .agg #[.int .i64 s.n, .int .i64 s.m, .int .i64 s.d]
theorem isSea_a (n m d : Int) (hn : decide (1 ≤ n ∧ n ≤ 99) = false) (w : World) (hT : Tabs w) :
    Calls Tryd.prog 34 #[.agg #[.int .i64 n, .int .i64 m, .int .i64 d]] w fun e w' => e = .returned (.bool false) ∧ Below w.heap.size w w' := by
  have HB := Lib.hid ((Below.refl _ w).alloc (Nat.le_refl _) (.cells #[.int .i64 n, .int .i64 m, .int .i64 d] 52))
  go_enter Tryd.func34, Tryd.ntmps34
  go_wp2_with (go_at_call 55; refine (isFrom_any _ _ _ _).mono ?_; rintro e w3 ⟨rfl, rfl⟩; rw [hn])
  go_ret
  exact ⟨rfl, HB.out⟩
theorem isSea_b (n m d : Int) (hn : decide (1 ≤ n ∧ n ≤ 99) = true) (hm : May 2001 m d) (w : World) (hT : Tabs w) :
    Calls Tryd.prog 34 #[.agg #[.int .i64 n, .int .i64 m, .int .i64 d]] w fun e w' => e = .returned (.bool true) ∧ Below w.heap.size w w' := by
  have hb := (Below.refl _ w).alloc (Nat.le_refl _) (.cells #[.int .i64 n, .int .i64 m, .int .i64 d] 52)
  have HT := Lib.hid (hT.next hb)
  have HB := Lib.hid hb
  clear hb
  go_enter Tryd.func34, Tryd.ntmps34
  go_wp2_with (first
    | (go_at_call 55; refine (isFrom_any _ _ _ _).mono ?_; rintro e w3 ⟨rfl, rfl⟩; rw [hn])
    | (go_at_call 49; refine (check_any _ _ _ _ HT.out).mono ?_; rintro e w4 ⟨rfl, hB4⟩; rw [mayE_yes hm]; have HB4 := Lib.hid hB4; clear hB4))
  go_ret
  exact ⟨rfl, HB.out.trans (HB4.out.mono HB.out.size)⟩
theorem isSea_c (n m d : Int) (hn : decide (1 ≤ n ∧ n ≤ 99) = true) (hm : ¬ May 2001 m d) (w : World) (hT : Tabs w) :
    Calls Tryd.prog 34 #[.agg #[.int .i64 n, .int .i64 m, .int .i64 d]] w fun e w' => e = .returned (.bool false) ∧ Below w.heap.size w w' := by
  have hb := (Below.refl _ w).alloc (Nat.le_refl _) (.cells #[.int .i64 n, .int .i64 m, .int .i64 d] 52)
  have HT := Lib.hid (hT.next hb)
  have HB := Lib.hid hb
  clear hb
  go_enter Tryd.func34, Tryd.ntmps34
  go_wp2_with (first
    | (go_at_call 55; refine (isFrom_any _ _ _ _).mono ?_; rintro e w3 ⟨rfl, rfl⟩; rw [hn])
    | (go_at_call 49; refine (check_any _ _ _ _ HT.out).mono ?_; rintro e w4 ⟨rfl, hB4⟩; rw [mayE_no hm]; have HB4 := Lib.hid hB4; clear hB4))
  go_ret
  exact ⟨rfl, HB.out.trans (HB4.out.mono HB.out.size)⟩
theorem isSea_any (s : Se) (w : World) (hT : Tabs w) :
    Calls Tryd.prog 34 #[seV s] w fun e w' => e = .returned (.bool (decide (SeIs s))) ∧ Below w.heap.size w w' := by
  obtain ⟨n, m, d⟩ := s
  by_cases cn : 1 ≤ n ∧ n ≤ 99
  · by_cases cm : May 2001 m d
    · rw [show decide (SeIs ⟨n, m, d⟩) = true from decide_eq_true ⟨cn, cm⟩]
      exact isSea_b n m d (decide_eq_true cn) cm w hT
    · rw [show decide (SeIs ⟨n, m, d⟩) = false from decide_eq_false (fun h => cm h.2)]
      exact isSea_c n m d (decide_eq_true cn) cm w hT
  · rw [show decide (SeIs ⟨n, m, d⟩) = false from decide_eq_false (fun h => cn h.1)]
    exact isSea_a n m d (decide_eq_false cn) w hT
end Go.Proofs.YtgedcfgmfhlkdaaDoor
