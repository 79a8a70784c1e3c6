/- Contracts of the program's changesOf and its closure: the standard times of a year's changes. -/
import Derived.Test.YtobnlcmamnoefaaDoorYRule
import Derived.Test.YtobnlcmamnoefaaDoorZEdges
import Derived.Test.YtobnlcmamnoefaaDoorKTime
set_option linter.unusedVariables false
set_option linter.unusedSimpArgs false
namespace Go.Proofs.YtobnlcmamnoefaaDoor
open Go.RowKit Go.Shelf
set_option maxRecDepth 100000 in
set_option maxHeartbeats 2000000 in
theorem changeAt_any (y m w n t : Int) (hy : 1970 ≤ y ∧ y ≤ 9999) (h : ChIs m w n t) (b : Nat) (W : World) (hb : W.cell? ⟨b, 0, none⟩ = some (.int .i64 y)) (hT : Tabs W) :
    Calls Tryd.prog 47 #[chV m w n t, .pointer (some ⟨b, 0, none⟩)] W fun e w' => e = .returned (.int .i64 (atV y m w n t)) ∧ Below W.heap.size W w' := by
  have hb0 := (Below.refl _ W).alloc (Nat.le_refl _) (.cells #[.int .i64 m, .int .i64 w, .int .i64 n, .int .i64 t] 29)
  have hg0 := heap_alloc_new W (.cells #[.int .i64 m, .int .i64 w, .int .i64 n, .int .i64 t] 29)
  have hbl : b < W.heap.size := World.block_lt_of_cell? W _ hb
  have HB := Lib.hid hb0
  have HG := Lib.hid hg0
  have HT := Lib.hid (hT.next hb0)
  have hN := nth_is_of hy h
  have hM := nth_may hN
  have ht := h.2.2.2
  obtain ⟨D, hD⟩ : ∃ D, D = nthD y m w n := ⟨_, rfl⟩
  have H1 := Lib.hid (nth_yes y m w n hN _ HT.out)
  rw [← hD] at H1 hM
  have hmi : MomIs y m D (t / 60) (t % 60) 0 := ⟨hM, by omega, by omega, by omega⟩
  have hI : instV y m D (t / 60) (t % 60) 0 = atV y m w n t := by
    unfold instV; rw [if_pos hmi]; unfold secOf atV; rw [← hD]; omega
  have hE : momE y m D (t / 60) (t % 60) 0 = 0 := by unfold momE; rw [if_pos hmi]
  have H2 := Lib.hid (fun X hX => instant_any y m D (t / 60) (t % 60) 0 X hX)
  rw [hI, hE] at H2
  obtain ⟨V, hV⟩ : ∃ V, V = atV y m w n t := ⟨_, rfl⟩
  rw [← hV] at H2 ⊢
  obtain ⟨ht0, ht1⟩ := ht
  clear hN hM hD h hmi hI hE hV hb0 hg0 hT hy
  go_enter Tryd.func47, Tryd.ntmps47
  go_wp2_with fail
  refine H1.out.mono ?_
  rintro e X ⟨rfl, hB1⟩
  have hg1 := (hB1.block W.heap.size (Array.getElem?_eq_some_iff.1 HG.out).1).trans HG.out
  have s3 : X.cell? ⟨W.heap.size, 3, none⟩ = some (.int .i64 t) := cell_of_row X _ 3 _ _ _ hg1
  have hb1 := HB.out.trans (hB1.mono HB.out.size)
  have hb2 := hb1.alloc hb1.size (.cells #[.int .i64 y, .int .i64 m, .int .i64 D] 42)
  have HB2 := Lib.hid hb2
  have HT2 := Lib.hid (HT.out.next (hB1.alloc hB1.size (.cells #[.int .i64 y, .int .i64 m, .int .i64 D] 42)))
  have hlx : W.heap.size < X.heap.size := (Array.getElem?_eq_some_iff.1 hg1).1
  clear hB1 hg1 hb1 hb2 HB HG HT H1 hb
  go_wp2_with fail
  refine (H2.out _ HT2.out).mono ?_
  rintro e Y ⟨rfl, hB2⟩
  go_wp2
  go_ret
  exact ⟨rfl, HB2.out.trans (hB2.mono HB2.out.size)⟩
set_option maxRecDepth 100000 in
set_option maxHeartbeats 4000000 in
theorem changesOf_any (r : Rl) (y : Int) (w : World) (hz : RlIs r) (hy : r.of y) (hT : Tabs w) :
    Calls Tryd.prog 34 #[rlV r, .int .i64 y] w fun e w' => e = .returned (.tuple #[.int .i64 (onOf r y), .int .i64 (offOf r y)]) ∧ Below w.heap.size w w' := by
  have hyy := rl_year hz hy
  have H2 := Lib.hid (fun X (hX : X.cell? ⟨w.heap.size + 1, 0, none⟩ = some (.int .i64 y) ∧ Tabs X) => changeAt_any y r.m1 r.w1 r.n1 r.t1 hyy hz.2.2.1 (w.heap.size + 1) X hX.1 hX.2)
  have H3 := Lib.hid (fun X (hX : X.cell? ⟨w.heap.size + 1, 0, none⟩ = some (.int .i64 y) ∧ Tabs X) => changeAt_any y r.m2 r.w2 r.n2 r.t2 hyy hz.2.2.2 (w.heap.size + 1) X hX.1 hX.2)
  rw [show atV y r.m1 r.w1 r.n1 r.t1 = onOf r y from rfl] at H2
  rw [show atV y r.m2 r.w2 r.n2 r.t2 = offOf r y from rfl] at H3
  obtain ⟨V1, hV1⟩ : ∃ v, v = onOf r y := ⟨_, rfl⟩
  obtain ⟨V2, hV2⟩ : ∃ v, v = offOf r y := ⟨_, rfl⟩
  rw [← hV1] at H2 ⊢
  rw [← hV2] at H3 ⊢
  clear hV1 hV2 hz hy hyy
  obtain ⟨f, l, m1, w1, n1, t1, m2, w2, n2, t2, x⟩ := r
  simp only [] at H2 H3
  have hb0 := (Below.refl _ w).alloc (Nat.le_refl _) (.cells #[.int .i64 f, .int .i64 l, .int .i64 m1, .int .i64 w1, .int .i64 n1, .int .i64 t1, .int .i64 m2, .int .i64 w2, .int .i64 n2, .int .i64 t2, .int .i64 x] 31)
  have hb1 := hb0.alloc hb0.size (.cells #[.int .i64 y] 3)
  have hg := heap_old (heap_alloc_new w (.cells #[.int .i64 f, .int .i64 l, .int .i64 m1, .int .i64 w1, .int .i64 n1, .int .i64 t1, .int .i64 m2, .int .i64 w2, .int .i64 n2, .int .i64 t2, .int .i64 x] 31)) (.cells #[.int .i64 y] 3)
  have hgy := heap_alloc_new (w.alloc (.cells #[.int .i64 f, .int .i64 l, .int .i64 m1, .int .i64 w1, .int .i64 n1, .int .i64 t1, .int .i64 m2, .int .i64 w2, .int .i64 n2, .int .i64 t2, .int .i64 x] 31)) (.cells #[.int .i64 y] 3)
  rw [World.size_alloc] at hgy
  have HB := Lib.hid hb1
  have HG := Lib.hid hg
  have HY := Lib.hid hgy
  have HT := Lib.hid (hT.next hb1)
  have HTb := Lib.hid hT
  clear hb0 hb1 hg hgy hT
  go_enter Tryd.func34, Tryd.ntmps34
  go_wp2_with fail
  obtain ⟨W0, hW0⟩ : ∃ X, X = (w.alloc (.cells #[.int .i64 f, .int .i64 l, .int .i64 m1, .int .i64 w1, .int .i64 n1, .int .i64 t1, .int .i64 m2, .int .i64 w2, .int .i64 n2, .int .i64 t2, .int .i64 x] 31)).alloc (.cells #[.int .i64 y] 3) := ⟨_, rfl⟩
  rw [← hW0] at HB HG HY HT ⊢
  clear hW0
  have c2 : W0.cell? ⟨w.heap.size, 2, none⟩ = some (.int .i64 m1) := cell_of_row W0 _ 2 _ _ _ HG.out
  have c3 : W0.cell? ⟨w.heap.size, 3, none⟩ = some (.int .i64 w1) := cell_of_row W0 _ 3 _ _ _ HG.out
  have c4 : W0.cell? ⟨w.heap.size, 4, none⟩ = some (.int .i64 n1) := cell_of_row W0 _ 4 _ _ _ HG.out
  have c5 : W0.cell? ⟨w.heap.size, 5, none⟩ = some (.int .i64 t1) := cell_of_row W0 _ 5 _ _ _ HG.out
  have c6 : W0.cell? ⟨w.heap.size, 6, none⟩ = some (.int .i64 m2) := cell_of_row W0 _ 6 _ _ _ HG.out
  have c7 : W0.cell? ⟨w.heap.size, 7, none⟩ = some (.int .i64 w2) := cell_of_row W0 _ 7 _ _ _ HG.out
  have c8 : W0.cell? ⟨w.heap.size, 8, none⟩ = some (.int .i64 n2) := cell_of_row W0 _ 8 _ _ _ HG.out
  have c9 : W0.cell? ⟨w.heap.size, 9, none⟩ = some (.int .i64 t2) := cell_of_row W0 _ 9 _ _ _ HG.out
  have cy : W0.cell? ⟨w.heap.size + 1, 0, none⟩ = some (.int .i64 y) := cell_of_row W0 _ 0 _ _ _ HY.out
  have HC := Lib.hid (show W0.drew.cell? ⟨w.heap.size + 1, 0, none⟩ = some (.int .i64 y) ∧ Tabs W0.drew from ⟨cy, HT.out.next (Below.refl _ W0).drew⟩)
  have hl0 : w.heap.size < W0.drew.heap.size := (Array.getElem?_eq_some_iff.1 HG.out).1
  have hl1 : w.heap.size + 1 < W0.drew.heap.size := (Array.getElem?_eq_some_iff.1 HY.out).1
  have HB0 := Lib.hid HB.out.drew
  go_region_held3 (fun w' => w'.cell? ⟨w.heap.size, 2, none⟩ = some (.int .i64 m1) ∧ w'.cell? ⟨w.heap.size, 3, none⟩ = some (.int .i64 w1) ∧ w'.cell? ⟨w.heap.size, 4, none⟩ = some (.int .i64 n1) ∧ w'.cell? ⟨w.heap.size, 5, none⟩ = some (.int .i64 t1) ∧ w'.cell? ⟨w.heap.size, 6, none⟩ = some (.int .i64 m2) ∧ w'.cell? ⟨w.heap.size, 7, none⟩ = some (.int .i64 w2) ∧ w'.cell? ⟨w.heap.size, 8, none⟩ = some (.int .i64 n2) ∧ w'.cell? ⟨w.heap.size, 9, none⟩ = some (.int .i64 t2))
    (first
      | exact ⟨c2, c3, c4, c5, c6, c7, c8, c9⟩
      | exact (show _ ∧ _ from ⟨cell_of_row w3' _ 2 _ _ _ g3, cell_of_row w3' _ 3 _ _ _ g3, cell_of_row w3' _ 4 _ _ _ g3, cell_of_row w3' _ 5 _ _ _ g3, cell_of_row w3' _ 6 _ _ _ g3, cell_of_row w3' _ 7 _ _ _ g3, cell_of_row w3' _ 8 _ _ _ g3, cell_of_row w3' _ 9 _ _ _ g3⟩)
      | exact (show _ ∧ _ from ⟨cell_of_row w2' _ 2 _ _ _ g2, cell_of_row w2' _ 3 _ _ _ g2, cell_of_row w2' _ 4 _ _ _ g2, cell_of_row w2' _ 5 _ _ _ g2, cell_of_row w2' _ 6 _ _ _ g2, cell_of_row w2' _ 7 _ _ _ g2, cell_of_row w2' _ 8 _ _ _ g2, cell_of_row w2' _ 9 _ _ _ g2⟩))
    (first
      | (go_at_call 47; ((with_reducible refine (H2.out _ HC.out).mono ?_); rintro e w2' ⟨rfl, hB2⟩; have b2 := HB0.out.trans (hB2.mono HB0.out.size); have g2 := (hB2.block w.heap.size hl0).trans HG.out; have y2 := (hB2.block (w.heap.size + 1) hl1).trans HY.out; have hl2 := (Array.getElem?_eq_some_iff.1 g2).1; have h2c : w2'.cell? ⟨w.heap.size + 1, 0, none⟩ = some (.int .i64 y) ∧ Tabs w2' := ⟨cell_of_row w2' _ 0 _ _ _ y2, HTb.out.next b2⟩; clear hB2))
      | (go_at_call 47; ((with_reducible refine (H3.out w2' h2c).mono ?_); rintro e w3' ⟨rfl, hB3⟩; have b3 := b2.trans (hB3.mono b2.size); have g3 := (hB3.block w.heap.size hl2).trans g2; clear hB3)))
  go_wp2
  go_ret2
  exact ⟨rfl, b3⟩
end Go.Proofs.YtobnlcmamnoefaaDoor
