/- The walk of the statement CivilBack, over what its calls answer. -/
import Derived.Test.YtjlejpenegjbcaaDoorKRead
import Derived.Deep.CutBlock
import Derived.Deep.DeepCutAuto
set_option linter.unusedVariables false
set_option linter.unusedSimpArgs false
namespace Go.Proofs.YtjlejpenegjbcaaDoor
open Go.RowKit Go.Shelf
set_option maxRecDepth 100000 in
set_option maxHeartbeats 8000000 in
theorem back_walk (n t y m d h mi x : Int) (s : ByteArray) (hs : s.size ≤ 100) (w : World) (hT : TabsM w)
    (a1 a2 a3 e1 n1 f1 k2 g2 c1 c2 c3 h2 x1 x2 x3 x4 x5 x6 i3 y3 j3 : Int) (z : ByteArray) (a4 : Int) (w1 w2 w3 w4 w5 w6 b4 : Int) (u1 u2 u3 p5 : Int) (v : ByteArray) (q5 : Int)
    (A1 : ∀ X, TabsM X → Calls Tryd.prog 14 #[.int .i64 n] X fun e w' => e = .returned (.tuple #[dateV a1 a2 a3, .int .i64 e1]) ∧ Below X.heap.size X w')
    (A2 : ∀ X, TabsM X → Calls Tryd.prog 12 #[dateV a1 a2 a3] X fun e w' => e = .returned (.tuple #[.int .i64 n1, .int .i64 f1]) ∧ Below X.heap.size X w')
    (FA : (e1 = 0 ∧ f1 = 0 ∧ n1 = n) ∨ e1 = 60)
    (B1 : ∀ X, TabsM X → Calls Tryd.prog 12 #[dateV y m d] X fun e w' => e = .returned (.tuple #[.int .i64 k2, .int .i64 g2]) ∧ Below X.heap.size X w')
    (B2 : ∀ X, TabsM X → Calls Tryd.prog 14 #[.int .i64 k2] X fun e w' => e = .returned (.tuple #[dateV c1 c2 c3, .int .i64 h2]) ∧ Below X.heap.size X w')
    (FB : (g2 = 0 ∧ h2 = 0 ∧ c1 = y ∧ c2 = m ∧ c3 = d) ∨ g2 = 60)
    (C1 : ∀ X, TabsM X → Calls Tryd.prog 24 #[.int .i64 t] X fun e w' => e = .returned (.tuple #[momV x1 x2 x3 x4 x5 x6, .int .i64 i3]) ∧ Below X.heap.size X w')
    (C2 : ∀ X, TabsM X → Calls Tryd.prog 23 #[momV x1 x2 x3 x4 x5 x6] X fun e w' => e = .returned (.tuple #[.int .i64 y3, .int .i64 j3]) ∧ Below X.heap.size X w')
    (FC : (i3 = 0 ∧ j3 = 0 ∧ y3 = t) ∨ i3 = 60)
    (D1 : ∀ X, TabsM X → Calls Tryd.prog 28 #[momV y m d h mi x] X fun e w' => e = .returned (.tuple #[.string z, .int .i64 a4]) ∧ Below X.heap.size X w')
    (D2 : ∀ X, TabsM X → Calls Tryd.prog 31 #[.string z] X fun e w' => e = .returned (.tuple #[momV w1 w2 w3 w4 w5 w6, .int .i64 b4]) ∧ Below X.heap.size X w')
    (FD : (a4 = 0 ∧ b4 = 0 ∧ w1 = y ∧ w2 = m ∧ w3 = d ∧ w4 = h ∧ w5 = mi ∧ w6 = x) ∨ a4 = 60)
    (E1 : ∀ X, TabsM X → Calls Tryd.prog 29 #[.string s] X fun e w' => e = .returned (.tuple #[dateV u1 u2 u3, .int .i64 p5]) ∧ Below X.heap.size X w')
    (E2 : ∀ X, TabsM X → Calls Tryd.prog 27 #[dateV u1 u2 u3] X fun e w' => e = .returned (.tuple #[.string v, .int .i64 q5]) ∧ Below X.heap.size X w')
    (FE : (p5 = 0 ∧ q5 = 0 ∧ v = s) ∨ p5 = 60) :
    Calls Tryd.prog 7 #[.int .i64 n, .int .i64 t, momV y m d h mi x, .string s] w fun e w' => e = .returned (.bool true) ∧ Below w.heap.size w w' := by
  have HT := Lib.hid (show ∀ X, Below w.heap.size w X → TabsM X from fun X hX => hT.next hX)
  have hb0 := (Below.refl _ w).alloc (Nat.le_refl _) (.cells #[.int .i64 y, .int .i64 m, .int .i64 d, .int .i64 h, .int .i64 mi, .int .i64 x] 40)
  have hr := heap_alloc_new w (.cells #[.int .i64 y, .int .i64 m, .int .i64 d, .int .i64 h, .int .i64 mi, .int .i64 x] 40)
  have HB0 := Lib.hid hb0
  have G0 := Lib.hid hr
  have HA1 := Lib.hid A1
  have HA2 := Lib.hid A2
  have HFA := Lib.hid FA
  have HB1c := Lib.hid B1
  have HB2c := Lib.hid B2
  have HFB := Lib.hid FB
  have HC1 := Lib.hid C1
  have HC2 := Lib.hid C2
  have HFC := Lib.hid FC
  have HD1 := Lib.hid D1
  have HD2 := Lib.hid D2
  have HFD := Lib.hid FD
  have HE1 := Lib.hid E1
  have HE2 := Lib.hid E2
  have HFE := Lib.hid FE
  have hsz : (s.size : Int) ≤ 100 := by omega
  clear A1 A2 FA B1 B2 FB C1 C2 FC D1 D2 FD E1 E2 FE hb0 hr hT
  go_enter Tryd.func7, Tryd.ntmps7
  go_wp2_with fail
  refine (alive_any _ (HT.out _ HB0.out).1).mono ?_
  rintro e W1 ⟨rfl, hB⟩
  have hb1 := HB0.out.trans (hB.mono HB0.out.size)
  have g1 := (hB.block w.heap.size (Array.getElem?_eq_some_iff.1 G0.out).1).trans G0.out
  have HB1 := Lib.hid hb1
  have G1 := Lib.hid g1
  clear hB hb1 g1
  go_wp2_with fail
  refine (HA1.out _ (HT.out _ HB1.out)).mono ?_
  rintro e W2 ⟨rfl, hB⟩
  have hb2 := HB1.out.trans (hB.mono HB1.out.size)
  have g2 := (hB.block w.heap.size (Array.getElem?_eq_some_iff.1 G1.out).1).trans G1.out
  have HB2 := Lib.hid (hb2.alloc hb2.size (.cells #[.int .i64 a1, .int .i64 a2, .int .i64 a3] 23))
  have G2 := Lib.hid (heap_old g2 (.cells #[.int .i64 a1, .int .i64 a2, .int .i64 a3] 23))
  have N2 := Lib.hid (heap_alloc_new W2 (.cells #[.int .i64 a1, .int .i64 a2, .int .i64 a3] 23))
  have hl2 : w.heap.size < W2.heap.size := (Array.getElem?_eq_some_iff.1 g2).1
  clear hB hb2 g2
  go_wp2_with fail
  refine (HA2.out _ (HT.out _ HB2.out)).mono ?_
  rintro e W3 ⟨rfl, hB⟩
  have hb3 := HB2.out.trans (hB.mono HB2.out.size)
  have g3 := (hB.block w.heap.size (Array.getElem?_eq_some_iff.1 G2.out).1).trans G2.out
  have HB3 := Lib.hid hb3
  have G3 := Lib.hid g3
  clear hB hb3 g3
  go_upto_region 6 with fail
  go_cut [59] from 39 to 59 (fun c wx => c = .bool false ∧ wx = W3)
  case first =>
    rcases HFA.out with ⟨rfl, rfl, rfl⟩ | rfl
    all_goals (go_wp2_with fail; go_meet; exact ⟨rfl, rfl⟩)
  obtain ⟨rfl, hwx⟩ := hcut
  subst wc
  have m0 : W3.cell? ⟨w.heap.size, 0, none⟩ = some (.int .i64 y) := cell_of_row _ _ 0 _ _ _ G3.out
  have m1 : W3.cell? ⟨w.heap.size, 1, none⟩ = some (.int .i64 m) := cell_of_row _ _ 1 _ _ _ G3.out
  have m2 : W3.cell? ⟨w.heap.size, 2, none⟩ = some (.int .i64 d) := cell_of_row _ _ 2 _ _ _ G3.out
  go_wp2_with fail
  refine (HB1c.out _ (HT.out _ HB3.out)).mono ?_
  rintro e W4 ⟨rfl, hB⟩
  have hb4 := HB3.out.trans (hB.mono HB3.out.size)
  have g4 := (hB.block w.heap.size (Array.getElem?_eq_some_iff.1 G3.out).1).trans G3.out
  have HB4 := Lib.hid hb4
  have G4 := Lib.hid g4
  clear hB hb4 g4
  clear m0 m1 m2
  go_wp2_with fail
  refine (HB2c.out _ (HT.out _ HB4.out)).mono ?_
  rintro e W5 ⟨rfl, hB⟩
  have hb5 := HB4.out.trans (hB.mono HB4.out.size)
  have g5 := (hB.block w.heap.size (Array.getElem?_eq_some_iff.1 G4.out).1).trans G4.out
  have HB5 := Lib.hid (hb5.alloc hb5.size (.cells #[.int .i64 c1, .int .i64 c2, .int .i64 c3] 23))
  have G5 := Lib.hid (heap_old g5 (.cells #[.int .i64 c1, .int .i64 c2, .int .i64 c3] 23))
  have N5 := Lib.hid (heap_alloc_new W5 (.cells #[.int .i64 c1, .int .i64 c2, .int .i64 c3] 23))
  have hl5 : w.heap.size < W5.heap.size := (Array.getElem?_eq_some_iff.1 g5).1
  clear hB hb5 g5
  have m0 : (W5.alloc (.cells #[.int .i64 c1, .int .i64 c2, .int .i64 c3] 23)).cell? ⟨w.heap.size, 0, none⟩ = some (.int .i64 y) := cell_of_row _ _ 0 _ _ _ G5.out
  have m1 : (W5.alloc (.cells #[.int .i64 c1, .int .i64 c2, .int .i64 c3] 23)).cell? ⟨w.heap.size, 1, none⟩ = some (.int .i64 m) := cell_of_row _ _ 1 _ _ _ G5.out
  have m2 : (W5.alloc (.cells #[.int .i64 c1, .int .i64 c2, .int .i64 c3] 23)).cell? ⟨w.heap.size, 2, none⟩ = some (.int .i64 d) := cell_of_row _ _ 2 _ _ _ G5.out
  have r0 : (W5.alloc (.cells #[.int .i64 c1, .int .i64 c2, .int .i64 c3] 23)).cell? ⟨W5.heap.size, 0, none⟩ = some (.int .i64 c1) := cell_of_row _ _ 0 _ _ _ N5.out
  have r1 : (W5.alloc (.cells #[.int .i64 c1, .int .i64 c2, .int .i64 c3] 23)).cell? ⟨W5.heap.size, 1, none⟩ = some (.int .i64 c2) := cell_of_row _ _ 1 _ _ _ N5.out
  have r2 : (W5.alloc (.cells #[.int .i64 c1, .int .i64 c2, .int .i64 c3] 23)).cell? ⟨W5.heap.size, 2, none⟩ = some (.int .i64 c3) := cell_of_row _ _ 2 _ _ _ N5.out
  go_upto_region 10 with fail
  go_cut [82] from 60 to 82 (fun c wx => c = .bool false ∧ wx = (W5.alloc (.cells #[.int .i64 c1, .int .i64 c2, .int .i64 c3] 23)))
  case first =>
    rcases HFB.out with ⟨rfl, rfl, rfl, rfl, rfl⟩ | rfl
    all_goals (go_wp2_with fail; go_meet; exact ⟨rfl, rfl⟩)
  obtain ⟨rfl, hwx⟩ := hcut
  subst wc
  clear m0 m1 m2
  clear r0 r1 r2
  clear N5 hl5
  go_wp2_with fail
  refine (HC1.out _ (HT.out _ HB5.out)).mono ?_
  rintro e W6 ⟨rfl, hB⟩
  have hb6 := HB5.out.trans (hB.mono HB5.out.size)
  have g6 := (hB.block w.heap.size (Array.getElem?_eq_some_iff.1 G5.out).1).trans G5.out
  have HB6 := Lib.hid (hb6.alloc hb6.size (.cells #[.int .i64 x1, .int .i64 x2, .int .i64 x3, .int .i64 x4, .int .i64 x5, .int .i64 x6] 40))
  have G6 := Lib.hid (heap_old g6 (.cells #[.int .i64 x1, .int .i64 x2, .int .i64 x3, .int .i64 x4, .int .i64 x5, .int .i64 x6] 40))
  have N6 := Lib.hid (heap_alloc_new W6 (.cells #[.int .i64 x1, .int .i64 x2, .int .i64 x3, .int .i64 x4, .int .i64 x5, .int .i64 x6] 40))
  have hl6 : w.heap.size < W6.heap.size := (Array.getElem?_eq_some_iff.1 g6).1
  clear hB hb6 g6
  have r0 : (W6.alloc (.cells #[.int .i64 x1, .int .i64 x2, .int .i64 x3, .int .i64 x4, .int .i64 x5, .int .i64 x6] 40)).cell? ⟨W6.heap.size, 0, none⟩ = some (.int .i64 x1) := cell_of_row _ _ 0 _ _ _ N6.out
  have r1 : (W6.alloc (.cells #[.int .i64 x1, .int .i64 x2, .int .i64 x3, .int .i64 x4, .int .i64 x5, .int .i64 x6] 40)).cell? ⟨W6.heap.size, 1, none⟩ = some (.int .i64 x2) := cell_of_row _ _ 1 _ _ _ N6.out
  have r2 : (W6.alloc (.cells #[.int .i64 x1, .int .i64 x2, .int .i64 x3, .int .i64 x4, .int .i64 x5, .int .i64 x6] 40)).cell? ⟨W6.heap.size, 2, none⟩ = some (.int .i64 x3) := cell_of_row _ _ 2 _ _ _ N6.out
  have r3 : (W6.alloc (.cells #[.int .i64 x1, .int .i64 x2, .int .i64 x3, .int .i64 x4, .int .i64 x5, .int .i64 x6] 40)).cell? ⟨W6.heap.size, 3, none⟩ = some (.int .i64 x4) := cell_of_row _ _ 3 _ _ _ N6.out
  have r4 : (W6.alloc (.cells #[.int .i64 x1, .int .i64 x2, .int .i64 x3, .int .i64 x4, .int .i64 x5, .int .i64 x6] 40)).cell? ⟨W6.heap.size, 4, none⟩ = some (.int .i64 x5) := cell_of_row _ _ 4 _ _ _ N6.out
  have r5 : (W6.alloc (.cells #[.int .i64 x1, .int .i64 x2, .int .i64 x3, .int .i64 x4, .int .i64 x5, .int .i64 x6] 40)).cell? ⟨W6.heap.size, 5, none⟩ = some (.int .i64 x6) := cell_of_row _ _ 5 _ _ _ N6.out
  go_wp2_with fail
  refine (HC2.out _ (HT.out _ HB6.out)).mono ?_
  rintro e W7 ⟨rfl, hB⟩
  have hb7 := HB6.out.trans (hB.mono HB6.out.size)
  have g7 := (hB.block w.heap.size (Array.getElem?_eq_some_iff.1 G6.out).1).trans G6.out
  have HB7 := Lib.hid hb7
  have G7 := Lib.hid g7
  clear hB hb7 g7
  clear r0 r1 r2 r3 r4 r5
  clear N6 hl6
  go_upto_region 14 with fail
  go_cut [103] from 83 to 103 (fun c wx => c = .bool false ∧ wx = W7)
  case first =>
    rcases HFC.out with ⟨rfl, rfl, rfl⟩ | rfl
    all_goals (go_wp2_with fail; go_meet; exact ⟨rfl, rfl⟩)
  obtain ⟨rfl, hwx⟩ := hcut
  subst wc
  have m0 : W7.cell? ⟨w.heap.size, 0, none⟩ = some (.int .i64 y) := cell_of_row _ _ 0 _ _ _ G7.out
  have m1 : W7.cell? ⟨w.heap.size, 1, none⟩ = some (.int .i64 m) := cell_of_row _ _ 1 _ _ _ G7.out
  have m2 : W7.cell? ⟨w.heap.size, 2, none⟩ = some (.int .i64 d) := cell_of_row _ _ 2 _ _ _ G7.out
  have m3 : W7.cell? ⟨w.heap.size, 3, none⟩ = some (.int .i64 h) := cell_of_row _ _ 3 _ _ _ G7.out
  have m4 : W7.cell? ⟨w.heap.size, 4, none⟩ = some (.int .i64 mi) := cell_of_row _ _ 4 _ _ _ G7.out
  have m5 : W7.cell? ⟨w.heap.size, 5, none⟩ = some (.int .i64 x) := cell_of_row _ _ 5 _ _ _ G7.out
  go_wp2_with fail
  refine (HD1.out _ (HT.out _ HB7.out)).mono ?_
  rintro e W8 ⟨rfl, hB⟩
  have hb8 := HB7.out.trans (hB.mono HB7.out.size)
  have g8 := (hB.block w.heap.size (Array.getElem?_eq_some_iff.1 G7.out).1).trans G7.out
  have HB8 := Lib.hid hb8
  have G8 := Lib.hid g8
  clear hB hb8 g8
  clear m0 m1 m2 m3 m4 m5
  go_wp2_with fail
  refine (HD2.out _ (HT.out _ HB8.out)).mono ?_
  rintro e W9 ⟨rfl, hB⟩
  have hb9 := HB8.out.trans (hB.mono HB8.out.size)
  have g9 := (hB.block w.heap.size (Array.getElem?_eq_some_iff.1 G8.out).1).trans G8.out
  have HB9 := Lib.hid (hb9.alloc hb9.size (.cells #[.int .i64 w1, .int .i64 w2, .int .i64 w3, .int .i64 w4, .int .i64 w5, .int .i64 w6] 40))
  have G9 := Lib.hid (heap_old g9 (.cells #[.int .i64 w1, .int .i64 w2, .int .i64 w3, .int .i64 w4, .int .i64 w5, .int .i64 w6] 40))
  have N9 := Lib.hid (heap_alloc_new W9 (.cells #[.int .i64 w1, .int .i64 w2, .int .i64 w3, .int .i64 w4, .int .i64 w5, .int .i64 w6] 40))
  have hl9 : w.heap.size < W9.heap.size := (Array.getElem?_eq_some_iff.1 g9).1
  clear hB hb9 g9
  have m0 : (W9.alloc (.cells #[.int .i64 w1, .int .i64 w2, .int .i64 w3, .int .i64 w4, .int .i64 w5, .int .i64 w6] 40)).cell? ⟨w.heap.size, 0, none⟩ = some (.int .i64 y) := cell_of_row _ _ 0 _ _ _ G9.out
  have m1 : (W9.alloc (.cells #[.int .i64 w1, .int .i64 w2, .int .i64 w3, .int .i64 w4, .int .i64 w5, .int .i64 w6] 40)).cell? ⟨w.heap.size, 1, none⟩ = some (.int .i64 m) := cell_of_row _ _ 1 _ _ _ G9.out
  have m2 : (W9.alloc (.cells #[.int .i64 w1, .int .i64 w2, .int .i64 w3, .int .i64 w4, .int .i64 w5, .int .i64 w6] 40)).cell? ⟨w.heap.size, 2, none⟩ = some (.int .i64 d) := cell_of_row _ _ 2 _ _ _ G9.out
  have m3 : (W9.alloc (.cells #[.int .i64 w1, .int .i64 w2, .int .i64 w3, .int .i64 w4, .int .i64 w5, .int .i64 w6] 40)).cell? ⟨w.heap.size, 3, none⟩ = some (.int .i64 h) := cell_of_row _ _ 3 _ _ _ G9.out
  have m4 : (W9.alloc (.cells #[.int .i64 w1, .int .i64 w2, .int .i64 w3, .int .i64 w4, .int .i64 w5, .int .i64 w6] 40)).cell? ⟨w.heap.size, 4, none⟩ = some (.int .i64 mi) := cell_of_row _ _ 4 _ _ _ G9.out
  have m5 : (W9.alloc (.cells #[.int .i64 w1, .int .i64 w2, .int .i64 w3, .int .i64 w4, .int .i64 w5, .int .i64 w6] 40)).cell? ⟨w.heap.size, 5, none⟩ = some (.int .i64 x) := cell_of_row _ _ 5 _ _ _ G9.out
  have r0 : (W9.alloc (.cells #[.int .i64 w1, .int .i64 w2, .int .i64 w3, .int .i64 w4, .int .i64 w5, .int .i64 w6] 40)).cell? ⟨W9.heap.size, 0, none⟩ = some (.int .i64 w1) := cell_of_row _ _ 0 _ _ _ N9.out
  have r1 : (W9.alloc (.cells #[.int .i64 w1, .int .i64 w2, .int .i64 w3, .int .i64 w4, .int .i64 w5, .int .i64 w6] 40)).cell? ⟨W9.heap.size, 1, none⟩ = some (.int .i64 w2) := cell_of_row _ _ 1 _ _ _ N9.out
  have r2 : (W9.alloc (.cells #[.int .i64 w1, .int .i64 w2, .int .i64 w3, .int .i64 w4, .int .i64 w5, .int .i64 w6] 40)).cell? ⟨W9.heap.size, 2, none⟩ = some (.int .i64 w3) := cell_of_row _ _ 2 _ _ _ N9.out
  have r3 : (W9.alloc (.cells #[.int .i64 w1, .int .i64 w2, .int .i64 w3, .int .i64 w4, .int .i64 w5, .int .i64 w6] 40)).cell? ⟨W9.heap.size, 3, none⟩ = some (.int .i64 w4) := cell_of_row _ _ 3 _ _ _ N9.out
  have r4 : (W9.alloc (.cells #[.int .i64 w1, .int .i64 w2, .int .i64 w3, .int .i64 w4, .int .i64 w5, .int .i64 w6] 40)).cell? ⟨W9.heap.size, 4, none⟩ = some (.int .i64 w5) := cell_of_row _ _ 4 _ _ _ N9.out
  have r5 : (W9.alloc (.cells #[.int .i64 w1, .int .i64 w2, .int .i64 w3, .int .i64 w4, .int .i64 w5, .int .i64 w6] 40)).cell? ⟨W9.heap.size, 5, none⟩ = some (.int .i64 w6) := cell_of_row _ _ 5 _ _ _ N9.out
  go_upto_region 18 with fail
  go_cut [124] from 104 to 124 (fun c wx => c = .bool false ∧ wx = (W9.alloc (.cells #[.int .i64 w1, .int .i64 w2, .int .i64 w3, .int .i64 w4, .int .i64 w5, .int .i64 w6] 40)))
  case first =>
    rcases HFD.out with ⟨rfl, rfl, rfl, rfl, rfl, rfl, rfl, rfl⟩ | rfl
    all_goals (go_wp2_with fail; go_meet; exact ⟨rfl, rfl⟩)
  obtain ⟨rfl, hwx⟩ := hcut
  subst wc
  clear m0 m1 m2 m3 m4 m5
  clear r0 r1 r2 r3 r4 r5
  clear N9 hl9
  go_wp2_with fail
  refine (HE1.out _ (HT.out _ HB9.out)).mono ?_
  rintro e W10 ⟨rfl, hB⟩
  have hb10 := HB9.out.trans (hB.mono HB9.out.size)
  have g10 := (hB.block w.heap.size (Array.getElem?_eq_some_iff.1 G9.out).1).trans G9.out
  have HB10 := Lib.hid (hb10.alloc hb10.size (.cells #[.int .i64 u1, .int .i64 u2, .int .i64 u3] 23))
  have G10 := Lib.hid (heap_old g10 (.cells #[.int .i64 u1, .int .i64 u2, .int .i64 u3] 23))
  have N10 := Lib.hid (heap_alloc_new W10 (.cells #[.int .i64 u1, .int .i64 u2, .int .i64 u3] 23))
  have hl10 : w.heap.size < W10.heap.size := (Array.getElem?_eq_some_iff.1 g10).1
  clear hB hb10 g10
  have r0 : (W10.alloc (.cells #[.int .i64 u1, .int .i64 u2, .int .i64 u3] 23)).cell? ⟨W10.heap.size, 0, none⟩ = some (.int .i64 u1) := cell_of_row _ _ 0 _ _ _ N10.out
  have r1 : (W10.alloc (.cells #[.int .i64 u1, .int .i64 u2, .int .i64 u3] 23)).cell? ⟨W10.heap.size, 1, none⟩ = some (.int .i64 u2) := cell_of_row _ _ 1 _ _ _ N10.out
  have r2 : (W10.alloc (.cells #[.int .i64 u1, .int .i64 u2, .int .i64 u3] 23)).cell? ⟨W10.heap.size, 2, none⟩ = some (.int .i64 u3) := cell_of_row _ _ 2 _ _ _ N10.out
  go_wp2_with fail
  refine (HE2.out _ (HT.out _ HB10.out)).mono ?_
  rintro e W11 ⟨rfl, hB⟩
  have hb11 := HB10.out.trans (hB.mono HB10.out.size)
  have g11 := (hB.block w.heap.size (Array.getElem?_eq_some_iff.1 G10.out).1).trans G10.out
  have HB11 := Lib.hid hb11
  have G11 := Lib.hid g11
  clear hB hb11 g11
  clear r0 r1 r2
  clear N10 hl10
  go_upto_region 22 with fail
  rcases HFE.out with ⟨rfl, rfl, rfl⟩ | rfl
  all_goals
    go_wp2_with fail
    go_ret
    exact ⟨by simp, HB11.out⟩
end Go.Proofs.YtjlejpenegjbcaaDoor
