/- The walk of the statement ZoneEdges. -/
import Derived.Test.YtobnlcmamnoefaaDoorYEdgesM
set_option linter.unusedVariables false
set_option linter.unusedSimpArgs false
namespace Go.Proofs.YtobnlcmamnoefaaDoor
open Go.RowKit Go.Shelf
set_option maxRecDepth 100000 in
set_option maxHeartbeats 4000000 in
theorem edges_len (off y : Int) (a : Option Addr) (len cap : Nat) (R : Nat → Rl) (w : World) (hT : Tabs w) (hR : RulesAt w.heap.size w a len R) (hy : In64 y) (hl : len ≠ 1) :
    Calls Tryd.prog 7 #[zoneV off a len cap, .int .i64 y] w fun e w' => e = .returned (.bool true) ∧ Below w.heap.size w w' := by
  have hb0 := (Below.refl _ w).alloc (Nat.le_refl _) (.cells #[.int .i64 off, .slice a len cap] 24)
  have g_z := heap_alloc_new w (.cells #[.int .i64 off, .slice a len cap] 24)
  have H1 := Lib.hid (alive_any _ (hT.next hb0))
  have hli : ((len : Int) != 1) = true := by simp; omega
  clear hT hR hl hy
  have HB0 := Lib.hid hb0
  have HG0_z := Lib.hid g_z
  clear hb0 g_z
  go_enter Tryd.func7, Tryd.ntmps7
  go_wp2_with fail
  refine (H1.out).mono ?_
  rintro e X1 ⟨rfl, hB⟩
  have hb := HB0.out.trans (hB.mono HB0.out.size)
  have g_z := (hB.block (w.heap.size) (Array.getElem?_eq_some_iff.1 HG0_z.out).1).trans HG0_z.out
  have c_z_1 : X1.cell? ⟨w.heap.size, 1, none⟩ = some (.slice a len cap) := cell_of_row X1 _ 1 _ _ _ g_z
  have lt_z : w.heap.size < X1.heap.size := (Array.getElem?_eq_some_iff.1 g_z).1
  have HB1 := Lib.hid hb
  have HG1_z := Lib.hid g_z
  clear hB hb  g_z HB0 HG0_z H1
  go_wp2
  go_ret
  exact ⟨rfl, HB1.out⟩
set_option maxRecDepth 100000 in
set_option maxHeartbeats 4000000 in
theorem edges_none (off y : Int) (a : Option Addr) (len cap : Nat) (R : Nat → Rl) (w : World) (hT : Tabs w) (hR : RulesAt w.heap.size w a len R) (hy : In64 y) (hl : len = 1) (hn : ¬ ZoneIs off R len ∨ ruleI R len y = -1) :
    Calls Tryd.prog 7 #[zoneV off a len cap, .int .i64 y] w fun e w' => e = .returned (.bool true) ∧ Below w.heap.size w w' := by
  have hb0 := (Below.refl _ w).alloc (Nat.le_refl _) (.cells #[.int .i64 off, .slice a len cap] 24)
  have g_z := heap_alloc_new w (.cells #[.int .i64 off, .slice a len cap] 24)
  have H1 := Lib.hid (alive_any _ (hT.next hb0))
  have hli : ((len : Int) != 1) = false := by simp; omega
  have hll : len ≤ 1000 := by omega
  have H2 := Lib.hid (fun X (hX : Below w.heap.size w X) => edgesZ_no off a len cap R y X hll ((hR.next hX).mono hX.size) hn)
  clear hT hR hl hll hn
  have HB0 := Lib.hid hb0
  have HG0_z := Lib.hid g_z
  clear hb0 g_z
  go_enter Tryd.func7, Tryd.ntmps7
  go_wp2_with fail
  refine (H1.out).mono ?_
  rintro e X1 ⟨rfl, hB⟩
  have hb := HB0.out.trans (hB.mono HB0.out.size)
  have g_z := (hB.block (w.heap.size) (Array.getElem?_eq_some_iff.1 HG0_z.out).1).trans HG0_z.out
  have c_z_0 : X1.cell? ⟨w.heap.size, 0, none⟩ = some (.int .i64 off) := cell_of_row X1 _ 0 _ _ _ g_z
  have c_z_1 : X1.cell? ⟨w.heap.size, 1, none⟩ = some (.slice a len cap) := cell_of_row X1 _ 1 _ _ _ g_z
  have lt_z : w.heap.size < X1.heap.size := (Array.getElem?_eq_some_iff.1 g_z).1
  have HB1 := Lib.hid hb
  have HG1_z := Lib.hid g_z
  clear hB hb  g_z HB0 HG0_z H1
  go_wp2_with fail
  refine (H2.out _ HB1.out).mono ?_
  rintro e X2 ⟨rfl, hB⟩
  have hb := HB1.out.trans (hB.mono HB1.out.size)
  have g_z := (hB.block (w.heap.size) (Array.getElem?_eq_some_iff.1 HG1_z.out).1).trans HG1_z.out
  clear c_z_0 c_z_1 lt_z
  have HB2 := Lib.hid hb
  have HG2_z := Lib.hid g_z
  clear hB hb  g_z HB1 HG1_z H2
  go_wp2
  go_ret
  exact ⟨rfl, HB2.out⟩
set_option maxRecDepth 100000 in
set_option maxHeartbeats 4000000 in
theorem edges_high (off y : Int) (a : Option Addr) (len cap : Nat) (R : Nat → Rl) (w : World) (hT : Tabs w) (hR : RulesAt w.heap.size w a len R) (hy : In64 y) (hl : len = 1) (hz : ZoneIs off R len) (hi : ruleI R len y = (0 : Nat)) (hof : (R 0).of y) (c : 9999 ≤ y) :
    Calls Tryd.prog 7 #[zoneV off a len cap, .int .i64 y] w fun e w' => e = .returned (.bool true) ∧ Below w.heap.size w w' := by
  have hb0 := (Below.refl _ w).alloc (Nat.le_refl _) (.cells #[.int .i64 off, .slice a len cap] 24)
  have g_z := heap_alloc_new w (.cells #[.int .i64 off, .slice a len cap] 24)
  have H1 := Lib.hid (alive_any _ (hT.next hb0))
  have hli : ((len : Int) != 1) = false := by simp; omega
  have hll : len ≤ 1000 := by omega
  have hyy := rl_year (hz.2.2 0 (by omega)) hof
  have hv1 := at_bounds hyy (hz.2.2 0 (by omega)).2.2.1
  have hv2 := at_bounds hyy (hz.2.2 0 (by omega)).2.2.2
  rw [show atV y (R 0).m1 (R 0).w1 (R 0).n1 (R 0).t1 = onOf (R 0) y from rfl] at hv1
  rw [show atV y (R 0).m2 (R 0).w2 (R 0).n2 (R 0).t2 = offOf (R 0) y from rfl] at hv2
  have hoff := hz.1
  have H2 := Lib.hid (fun X (hX : Below w.heap.size w X) => edgesZ_yes off a len cap R y X ((hR.next hX).mono hX.size) hz (hT.next hX) 0 (by omega) hi hof)
  obtain ⟨V1, hV1⟩ : ∃ v, v = onOf (R 0) y := ⟨_, rfl⟩
  obtain ⟨V2, hV2⟩ : ∃ v, v = offOf (R 0) y := ⟨_, rfl⟩
  rw [← hV1, ← hV2] at H2
  rw [← hV1] at hv1
  rw [← hV2] at hv2
  obtain ⟨ON, hON⟩ : ∃ v, v = V1 - off := ⟨_, rfl⟩
  obtain ⟨OF, hOF⟩ : ∃ v, v = V2 - off := ⟨_, rfl⟩
  rw [← hON, ← hOF] at H2
  have hob : (-60000 ≤ ON ∧ ON ≤ 253402400800) ∧ (-60000 ≤ OF ∧ OF ≤ 253402400800) := by omega
  obtain ⟨⟨b1, b2⟩, b3, b4⟩ := hob
  obtain ⟨y0, y1⟩ := hyy
  clear hT hR hl hll hz hi hof hv1 hv2 hoff hV1 hV2 hON hOF
  have HB0 := Lib.hid hb0
  have HG0_z := Lib.hid g_z
  clear hb0 g_z
  go_enter Tryd.func7, Tryd.ntmps7
  go_wp2_with fail
  refine (H1.out).mono ?_
  rintro e X1 ⟨rfl, hB⟩
  have hb := HB0.out.trans (hB.mono HB0.out.size)
  have g_z := (hB.block (w.heap.size) (Array.getElem?_eq_some_iff.1 HG0_z.out).1).trans HG0_z.out
  have c_z_0 : X1.cell? ⟨w.heap.size, 0, none⟩ = some (.int .i64 off) := cell_of_row X1 _ 0 _ _ _ g_z
  have c_z_1 : X1.cell? ⟨w.heap.size, 1, none⟩ = some (.slice a len cap) := cell_of_row X1 _ 1 _ _ _ g_z
  have lt_z : w.heap.size < X1.heap.size := (Array.getElem?_eq_some_iff.1 g_z).1
  have HB1 := Lib.hid hb
  have HG1_z := Lib.hid g_z
  clear hB hb  g_z HB0 HG0_z H1
  go_wp2_with fail
  refine (H2.out _ HB1.out).mono ?_
  rintro e X2 ⟨rfl, hB⟩
  have hb := HB1.out.trans (hB.mono HB1.out.size)
  have g_z := (hB.block (w.heap.size) (Array.getElem?_eq_some_iff.1 HG1_z.out).1).trans HG1_z.out
  clear c_z_0 c_z_1 lt_z
  have HB2 := Lib.hid hb
  have HG2_z := Lib.hid g_z
  clear hB hb  g_z HB1 HG1_z H2
  go_wp2
  go_ret
  exact ⟨rfl, HB2.out⟩
set_option maxRecDepth 100000 in
set_option maxHeartbeats 4000000 in
theorem edges_low (off y : Int) (a : Option Addr) (len cap : Nat) (R : Nat → Rl) (w : World) (hT : Tabs w) (hR : RulesAt w.heap.size w a len R) (hy : In64 y) (hl : len = 1) (hz : ZoneIs off R len) (hi : ruleI R len y = (0 : Nat)) (hof : (R 0).of y) (c : y ≤ 1970) :
    Calls Tryd.prog 7 #[zoneV off a len cap, .int .i64 y] w fun e w' => e = .returned (.bool true) ∧ Below w.heap.size w w' := by
  have hb0 := (Below.refl _ w).alloc (Nat.le_refl _) (.cells #[.int .i64 off, .slice a len cap] 24)
  have g_z := heap_alloc_new w (.cells #[.int .i64 off, .slice a len cap] 24)
  have H1 := Lib.hid (alive_any _ (hT.next hb0))
  have hli : ((len : Int) != 1) = false := by simp; omega
  have hll : len ≤ 1000 := by omega
  have c9 : ¬ 9999 ≤ y := by omega
  have hyy := rl_year (hz.2.2 0 (by omega)) hof
  have hv1 := at_bounds hyy (hz.2.2 0 (by omega)).2.2.1
  have hv2 := at_bounds hyy (hz.2.2 0 (by omega)).2.2.2
  rw [show atV y (R 0).m1 (R 0).w1 (R 0).n1 (R 0).t1 = onOf (R 0) y from rfl] at hv1
  rw [show atV y (R 0).m2 (R 0).w2 (R 0).n2 (R 0).t2 = offOf (R 0) y from rfl] at hv2
  have hoff := hz.1
  have H2 := Lib.hid (fun X (hX : Below w.heap.size w X) => edgesZ_yes off a len cap R y X ((hR.next hX).mono hX.size) hz (hT.next hX) 0 (by omega) hi hof)
  obtain ⟨V1, hV1⟩ : ∃ v, v = onOf (R 0) y := ⟨_, rfl⟩
  obtain ⟨V2, hV2⟩ : ∃ v, v = offOf (R 0) y := ⟨_, rfl⟩
  rw [← hV1, ← hV2] at H2
  rw [← hV1] at hv1
  rw [← hV2] at hv2
  obtain ⟨ON, hON⟩ : ∃ v, v = V1 - off := ⟨_, rfl⟩
  obtain ⟨OF, hOF⟩ : ∃ v, v = V2 - off := ⟨_, rfl⟩
  rw [← hON, ← hOF] at H2
  have hob : (-60000 ≤ ON ∧ ON ≤ 253402400800) ∧ (-60000 ≤ OF ∧ OF ≤ 253402400800) := by omega
  obtain ⟨⟨b1, b2⟩, b3, b4⟩ := hob
  obtain ⟨y0, y1⟩ := hyy
  clear hT hR hl hll hz hi hof hv1 hv2 hoff hV1 hV2 hON hOF
  have HB0 := Lib.hid hb0
  have HG0_z := Lib.hid g_z
  clear hb0 g_z
  go_enter Tryd.func7, Tryd.ntmps7
  go_wp2_with fail
  refine (H1.out).mono ?_
  rintro e X1 ⟨rfl, hB⟩
  have hb := HB0.out.trans (hB.mono HB0.out.size)
  have g_z := (hB.block (w.heap.size) (Array.getElem?_eq_some_iff.1 HG0_z.out).1).trans HG0_z.out
  have c_z_0 : X1.cell? ⟨w.heap.size, 0, none⟩ = some (.int .i64 off) := cell_of_row X1 _ 0 _ _ _ g_z
  have c_z_1 : X1.cell? ⟨w.heap.size, 1, none⟩ = some (.slice a len cap) := cell_of_row X1 _ 1 _ _ _ g_z
  have lt_z : w.heap.size < X1.heap.size := (Array.getElem?_eq_some_iff.1 g_z).1
  have HB1 := Lib.hid hb
  have HG1_z := Lib.hid g_z
  clear hB hb  g_z HB0 HG0_z H1
  go_wp2_with fail
  refine (H2.out _ HB1.out).mono ?_
  rintro e X2 ⟨rfl, hB⟩
  have hb := HB1.out.trans (hB.mono HB1.out.size)
  have g_z := (hB.block (w.heap.size) (Array.getElem?_eq_some_iff.1 HG1_z.out).1).trans HG1_z.out
  clear c_z_0 c_z_1 lt_z
  have HB2 := Lib.hid hb
  have HG2_z := Lib.hid g_z
  clear hB hb  g_z HB1 HG1_z H2
  go_wp2
  go_ret
  exact ⟨rfl, HB2.out⟩
set_option maxRecDepth 100000 in
set_option maxHeartbeats 4000000 in
theorem edges_far (off y : Int) (a : Option Addr) (len cap : Nat) (R : Nat → Rl) (w : World) (hT : Tabs w) (hR : RulesAt w.heap.size w a len R) (hy : In64 y) (hl : len = 1) (hz : ZoneIs off R len) (hi : ruleI R len y = (0 : Nat)) (hof : (R 0).of y) (c0 : 1970 < y) (c1 : y < 9999) (c : onOf (R 0) y - off < secOf y 1 3 0 0 0 ∨ secOf y 12 29 0 0 0 < offOf (R 0) y - off ∨ offOf (R 0) y - off - (onOf (R 0) y - off) < 86400) :
    Calls Tryd.prog 7 #[zoneV off a len cap, .int .i64 y] w fun e w' => e = .returned (.bool true) ∧ Below w.heap.size w w' := by
  have hb0 := (Below.refl _ w).alloc (Nat.le_refl _) (.cells #[.int .i64 off, .slice a len cap] 24)
  have g_z := heap_alloc_new w (.cells #[.int .i64 off, .slice a len cap] 24)
  have H1 := Lib.hid (alive_any _ (hT.next hb0))
  have hli : ((len : Int) != 1) = false := by simp; omega
  have hll : len ≤ 1000 := by omega
  have hyy := rl_year (hz.2.2 0 (by omega)) hof
  have hv1 := at_bounds hyy (hz.2.2 0 (by omega)).2.2.1
  have hv2 := at_bounds hyy (hz.2.2 0 (by omega)).2.2.2
  rw [show atV y (R 0).m1 (R 0).w1 (R 0).n1 (R 0).t1 = onOf (R 0) y from rfl] at hv1
  rw [show atV y (R 0).m2 (R 0).w2 (R 0).n2 (R 0).t2 = offOf (R 0) y from rfl] at hv2
  have hoff := hz.1
  have H2 := Lib.hid (fun X (hX : Below w.heap.size w X) => edgesZ_yes off a len cap R y X ((hR.next hX).mono hX.size) hz (hT.next hX) 0 (by omega) hi hof)
  obtain ⟨V1, hV1⟩ : ∃ v, v = onOf (R 0) y := ⟨_, rfl⟩
  obtain ⟨V2, hV2⟩ : ∃ v, v = offOf (R 0) y := ⟨_, rfl⟩
  rw [← hV1, ← hV2] at H2
  rw [← hV1] at hv1
  rw [← hV2] at hv2
  obtain ⟨ON, hON⟩ : ∃ v, v = V1 - off := ⟨_, rfl⟩
  obtain ⟨OF, hOF⟩ : ∃ v, v = V2 - off := ⟨_, rfl⟩
  rw [← hON, ← hOF] at H2
  have hob : (-60000 ≤ ON ∧ ON ≤ 253402400800) ∧ (-60000 ≤ OF ∧ OF ≤ 253402400800) := by omega
  have hyy2 : 1970 ≤ y ∧ y ≤ 9999 := by omega
  obtain ⟨s1, s2⟩ := sec_13 hyy2
  obtain ⟨s3, s4⟩ := sec_29 hyy2
  have H3 := Lib.hid (fun X (hX : Below w.heap.size w X) => when_any y 1 3 0 0 0 s1 X (hT.next hX))
  have H4 := Lib.hid (fun X (hX : Below w.heap.size w X) => when_any y 12 29 0 0 0 s3 X (hT.next hX))
  have hF0 := sec_bounds s1
  have hF1 := sec_bounds s3
  obtain ⟨F0, hF0e⟩ : ∃ f, f = secOf y 1 3 0 0 0 := ⟨_, rfl⟩
  obtain ⟨F1, hF1e⟩ : ∃ f, f = secOf y 12 29 0 0 0 := ⟨_, rfl⟩
  rw [← hF0e] at H3 hF0
  rw [← hF1e] at H4 hF1
  obtain ⟨f1, f2⟩ := hF0
  obtain ⟨f3, f4⟩ := hF1
  have hcc : (ON < F0) ∨ (¬ ON < F0 ∧ F1 < OF) ∨ (¬ ON < F0 ∧ ¬ F1 < OF ∧ OF - ON < 86400) := by
    rw [hON, hOF, hV1, hV2, hF0e, hF1e]; omega
  obtain ⟨⟨b1, b2⟩, b3, b4⟩ := hob
  obtain ⟨y0, y1⟩ := hyy
  have HCC := Lib.hid hcc
  clear hT hR hl hll hz hi hof hv1 hv2 hoff hV1 hV2 hON hOF s1 s2 s3 s4 hyy2 hF0e hF1e hcc c
  have HB0 := Lib.hid hb0
  have HG0_z := Lib.hid g_z
  clear hb0 g_z
  go_enter Tryd.func7, Tryd.ntmps7
  go_wp2_with fail
  refine (H1.out).mono ?_
  rintro e X1 ⟨rfl, hB⟩
  have hb := HB0.out.trans (hB.mono HB0.out.size)
  have g_z := (hB.block (w.heap.size) (Array.getElem?_eq_some_iff.1 HG0_z.out).1).trans HG0_z.out
  have c_z_0 : X1.cell? ⟨w.heap.size, 0, none⟩ = some (.int .i64 off) := cell_of_row X1 _ 0 _ _ _ g_z
  have c_z_1 : X1.cell? ⟨w.heap.size, 1, none⟩ = some (.slice a len cap) := cell_of_row X1 _ 1 _ _ _ g_z
  have lt_z : w.heap.size < X1.heap.size := (Array.getElem?_eq_some_iff.1 g_z).1
  have HB1 := Lib.hid hb
  have HG1_z := Lib.hid g_z
  clear hB hb  g_z HB0 HG0_z H1
  go_wp2_with fail
  refine (H2.out _ HB1.out).mono ?_
  rintro e X2 ⟨rfl, hB⟩
  have hb := HB1.out.trans (hB.mono HB1.out.size)
  have g_z := (hB.block (w.heap.size) (Array.getElem?_eq_some_iff.1 HG1_z.out).1).trans HG1_z.out
  clear c_z_0 c_z_1 lt_z
  have HB2 := Lib.hid hb
  have HG2_z := Lib.hid g_z
  clear hB hb  g_z HB1 HG1_z H2
  go_wp2_with fail
  refine (H3.out _ HB2.out).mono ?_
  rintro e X3 ⟨rfl, hB⟩
  have hb := HB2.out.trans (hB.mono HB2.out.size)
  have g_z := (hB.block (w.heap.size) (Array.getElem?_eq_some_iff.1 HG2_z.out).1).trans HG2_z.out
  have HB3 := Lib.hid hb
  have HG3_z := Lib.hid g_z
  clear hB hb  g_z HB2 HG2_z H3
  go_wp2_with fail
  refine (H4.out _ HB3.out).mono ?_
  rintro e X4 ⟨rfl, hB⟩
  have hb := HB3.out.trans (hB.mono HB3.out.size)
  have g_z := (hB.block (w.heap.size) (Array.getElem?_eq_some_iff.1 HG3_z.out).1).trans HG3_z.out
  have HB4 := Lib.hid hb
  have HG4_z := Lib.hid g_z
  clear hB hb  g_z HB3 HG3_z H4
  rcases HCC.out with c | ⟨c, c2⟩ | ⟨c, c2, c3⟩
  · go_wp2
    go_ret
    exact ⟨rfl, HB4.out⟩
  · go_wp2
    go_ret
    exact ⟨rfl, HB4.out⟩
  · go_wp2
    go_ret
    exact ⟨rfl, HB4.out⟩
set_option maxRecDepth 100000 in
set_option maxHeartbeats 4000000 in
theorem edges_main (off y : Int) (a : Option Addr) (cap : Nat) (R : Nat → Rl) (w : World) (hT : Tabs w) (hR : RulesAt w.heap.size w a 1 R) (hz : ZoneIs off R 1) (hi : ruleI R 1 y = (0 : Nat)) (hof : (R 0).of y) (c0 : 1970 < y) (c9 : y < 9999) (V1 V2 x : Int) (hM : Mid off R y V1 V2 x) (c1 : ahead y * 86400 + 172800 ≤ V1 - off) (c2 : V2 - off ≤ ahead (y + 1) * 86400 - 259200) :
    Calls Tryd.prog 7 #[zoneV off a 1 cap, .int .i64 y] w fun e w' => e = .returned (.bool true) ∧ Below w.heap.size w w' := by
  have hb0 := (Below.refl _ w).alloc (Nat.le_refl _) (.cells #[.int .i64 off, .slice a 1 cap] 24)
  have g_z := heap_alloc_new w (.cells #[.int .i64 off, .slice a 1 cap] 24)
  have H1 := Lib.hid (alive_any _ (hT.next hb0))
  have hli : ((1 : Nat) : Int) = 1 := rfl
  have hyy := rl_year (hz.2.2 0 (by omega)) hof
  have hoff := hz.1
  have H2 := Lib.hid (fun X (hX : Below w.heap.size w X) => edgesZ_yes off a 1 cap R y X ((hR.next hX).mono hX.size) hz (hT.next hX) 0 (by omega) hi hof)
  have hMv1 := hM.h1
  have hMv2 := hM.h2
  rw [hMv1, hMv2] at H2
  have he := hM.ends
  have x0 := hM.x0
  have x1 := hM.x1
  have hg := hM.gap
  obtain ⟨ON, hON⟩ : ∃ v, v = V1 - off := ⟨_, rfl⟩
  obtain ⟨OF, hOF⟩ : ∃ v, v = V2 - off := ⟨_, rfl⟩
  rw [← hON, ← hOF] at H2
  have hob : (-60000 ≤ ON ∧ ON ≤ 253402400800) ∧ (-60000 ≤ OF ∧ OF ≤ 253402400800) := by omega
  have hyy2 : 1970 ≤ y ∧ y ≤ 9999 := by omega
  obtain ⟨s1, s2⟩ := sec_13 hyy2
  obtain ⟨s3, s4⟩ := sec_29 hyy2
  have H3 := Lib.hid (fun X (hX : Below w.heap.size w X) => when_any y 1 3 0 0 0 s1 X (hT.next hX))
  have H4 := Lib.hid (fun X (hX : Below w.heap.size w X) => when_any y 12 29 0 0 0 s3 X (hT.next hX))
  have hF0 := sec_bounds s1
  have hF1 := sec_bounds s3
  obtain ⟨F0, hF0e⟩ : ∃ f, f = secOf y 1 3 0 0 0 := ⟨_, rfl⟩
  obtain ⟨F1, hF1e⟩ : ∃ f, f = secOf y 12 29 0 0 0 := ⟨_, rfl⟩
  rw [← hF0e] at H3 hF0
  rw [← hF1e] at H4 hF1
  obtain ⟨f1, f2⟩ := hF0
  obtain ⟨f3, f4⟩ := hF1
  obtain ⟨aq0, aq1, aq2, aq3, aq4, aq5, mA, eA⟩ := mom_exists (V1 - 1) (by omega) (by omega)
  obtain ⟨bq0, bq1, bq2, bq3, bq4, bq5, mB, eB⟩ := mom_exists (V1 + x) (by omega) (by omega)
  obtain ⟨cq0, cq1, cq2, cq3, cq4, cq5, mC, eC⟩ := mom_exists (V2 - 1 + x) (by omega) (by omega)
  obtain ⟨dq0, dq1, dq2, dq3, dq4, dq5, mD, eD⟩ := mom_exists (V2) (by omega) (by omega)
  obtain ⟨eq0, eq1, eq2, eq3, eq4, eq5, mE, eE⟩ := mom_exists (V1 + x - 1) (by omega) (by omega)
  obtain ⟨fq0, fq1, fq2, fq3, fq4, fq5, mF, eF⟩ := mom_exists (V2 + x - 1) (by omega) (by omega)
  have H5 := Lib.hid (fun X (hX : Below w.heap.size w X) => local_mom (t := ON - 1) (cap := cap) ((hR.next hX).mono hX.size) hz (hT.next hX) (hM.is (by omega) (by omega)) mA (by rw [eA, hM.offT_at (by omega) (by omega), if_neg (by omega)]; omega) false (by
    rw [hM.xs (by omega) (by omega), if_neg (by omega)]
    rfl))
  have H6 := Lib.hid (fun X (hX : Below w.heap.size w X) => local_mom (t := ON) (cap := cap) ((hR.next hX).mono hX.size) hz (hT.next hX) (hM.is (by omega) (by omega)) mB (by rw [eB, hM.offT_at (by omega) (by omega), if_pos ⟨by omega, by omega⟩]; omega) true (by
    rw [hM.xs (by omega) (by omega), if_pos ⟨by omega, by omega⟩]
    simp; omega))
  have H7 := Lib.hid (fun X (hX : Below w.heap.size w X) => local_mom (t := OF - 1) (cap := cap) ((hR.next hX).mono hX.size) hz (hT.next hX) (hM.is (by omega) (by omega)) mC (by rw [eC, hM.offT_at (by omega) (by omega), if_pos ⟨by omega, by omega⟩]; omega) true (by
    rw [hM.xs (by omega) (by omega), if_pos ⟨by omega, by omega⟩]
    simp; omega))
  have H8 := Lib.hid (fun X (hX : Below w.heap.size w X) => local_mom (t := OF) (cap := cap) ((hR.next hX).mono hX.size) hz (hT.next hX) (hM.is (by omega) (by omega)) mD (by rw [eD, hM.offT_at (by omega) (by omega), if_neg (by omega)]; omega) false (by
    rw [hM.xs (by omega) (by omega), if_neg (by omega)]
    rfl))
  have H9 := Lib.hid (fun X (hX : Below w.heap.size w X) => instant_mom mB _ eB X (hT.next hX))
  have H10 := Lib.hid (fun X (hX : Below w.heap.size w X) => instant_mom mD _ eD X (hT.next hX))
  have H11 := Lib.hid (fun X (hX : Below w.heap.size w X) => at_mom mE _ eE X (hT.next hX))
  have H12 := Lib.hid (fun X (hX : Below w.heap.size w X) => at_mom mF _ eF X (hT.next hX))
  have H13 := Lib.hid (fun X (hX : Below w.heap.size w X) => by
    have := instants_yes off a 1 cap R eq0 eq1 eq2 eq3 eq4 eq5 X ((hR.next hX).mono hX.size) hz (hT.next hX) mE
    rw [eE, hM.never] at this
    exact this)
  have H14 := Lib.hid (fun X (hX : Below w.heap.size w X) => by
    have := instants_yes off a 1 cap R fq0 fq1 fq2 fq3 fq4 fq5 X ((hR.next hX).mono hX.size) hz (hT.next hX) mF
    rw [eF, hM.twice] at this
    exact this)
  have hcc : (¬ ON < F0 ∧ ¬ F1 < OF ∧ ¬ OF - ON < 86400) := by
    rw [hON, hOF, hF0e, hF1e, s2, s4]
    refine ⟨?_, ?_, ?_⟩ <;> omega
  obtain ⟨cc1, cc2, cc3⟩ := hcc
  obtain ⟨⟨b1, b2⟩, b3, b4⟩ := hob
  obtain ⟨y0, y1⟩ := hyy
  obtain ⟨b, o, rfl, hbl, hrl⟩ := hR 0 (by omega)
  have hrx := hM.hx
  have hr10 := hrl.2.2.2.2.2.2.2.2.2.2
  rw [hrx] at hr10
  have HRC := Lib.hid (show w.cell? ⟨b, o + 10, none⟩ = some (.int .i64 x) from hr10)
  obtain ⟨e1, e2⟩ := he
  obtain ⟨o1, o2⟩ := hoff
  have HBL := Lib.hid hbl
  clear hT hR hz hi hof hMv1 hMv2 hON hOF s1 s2 s3 s4 hyy2 hF0e hF1e hM hrl hr10 hrx hbl hli c1 c2 mA eA mB eB mC eC mD eD mE eE mF eF
  have HB0 := Lib.hid hb0
  have HG0_z := Lib.hid g_z
  clear hb0 g_z
  go_enter Tryd.func7, Tryd.ntmps7
  go_wp2_with fail
  refine (H1.out).mono ?_
  rintro e X1 ⟨rfl, hB⟩
  have hb := HB0.out.trans (hB.mono HB0.out.size)
  have g_z := (hB.block (w.heap.size) (Array.getElem?_eq_some_iff.1 HG0_z.out).1).trans HG0_z.out
  have c_z_0 : X1.cell? ⟨w.heap.size, 0, none⟩ = some (.int .i64 off) := cell_of_row X1 _ 0 _ _ _ g_z
  have c_z_1 : X1.cell? ⟨w.heap.size, 1, none⟩ = some (.slice (some ⟨b, o, none⟩) 1 cap) := cell_of_row X1 _ 1 _ _ _ g_z
  have lt_z : w.heap.size < X1.heap.size := (Array.getElem?_eq_some_iff.1 g_z).1
  have HB1 := Lib.hid hb
  have HG1_z := Lib.hid g_z
  clear hB hb  g_z HB0 HG0_z H1
  go_wp2_with fail
  refine (H2.out _ HB1.out).mono ?_
  rintro e X2 ⟨rfl, hB⟩
  have hb := HB1.out.trans (hB.mono HB1.out.size)
  have g_z := (hB.block (w.heap.size) (Array.getElem?_eq_some_iff.1 HG1_z.out).1).trans HG1_z.out
  clear c_z_0 c_z_1 lt_z
  have HB2 := Lib.hid hb
  have HG2_z := Lib.hid g_z
  clear hB hb  g_z HB1 HG1_z H2
  go_wp2_with fail
  refine (H3.out _ HB2.out).mono ?_
  rintro e X3 ⟨rfl, hB⟩
  have hb := HB2.out.trans (hB.mono HB2.out.size)
  have g_z := (hB.block (w.heap.size) (Array.getElem?_eq_some_iff.1 HG2_z.out).1).trans HG2_z.out
  have HB3 := Lib.hid hb
  have HG3_z := Lib.hid g_z
  clear hB hb  g_z HB2 HG2_z H3
  go_wp2_with fail
  refine (H4.out _ HB3.out).mono ?_
  rintro e X4 ⟨rfl, hB⟩
  have hb := HB3.out.trans (hB.mono HB3.out.size)
  have g_z := (hB.block (w.heap.size) (Array.getElem?_eq_some_iff.1 HG3_z.out).1).trans HG3_z.out
  have c_z_0 : X4.cell? ⟨w.heap.size, 0, none⟩ = some (.int .i64 off) := cell_of_row X4 _ 0 _ _ _ g_z
  have c_z_1 : X4.cell? ⟨w.heap.size, 1, none⟩ = some (.slice (some ⟨b, o, none⟩) 1 cap) := cell_of_row X4 _ 1 _ _ _ g_z
  have lt_z : w.heap.size < X4.heap.size := (Array.getElem?_eq_some_iff.1 g_z).1
  have rc := (hb.cell (p := ⟨b, o + 10, none⟩) HBL.out).trans HRC.out
  have HB4 := Lib.hid hb
  have HG4_z := Lib.hid g_z
  clear hB hb  g_z HB3 HG3_z H4
  go_wp2_with fail
  refine (H5.out _ HB4.out).mono ?_
  rintro e X5 ⟨rfl, hB⟩
  have hb := HB4.out.trans (hB.mono HB4.out.size)
  have g_z := (hB.block (w.heap.size) (Array.getElem?_eq_some_iff.1 HG4_z.out).1).trans HG4_z.out
  clear c_z_0 c_z_1 lt_z rc
  have c_z_0 : X5.cell? ⟨w.heap.size, 0, none⟩ = some (.int .i64 off) := cell_of_row X5 _ 0 _ _ _ g_z
  have c_z_1 : X5.cell? ⟨w.heap.size, 1, none⟩ = some (.slice (some ⟨b, o, none⟩) 1 cap) := cell_of_row X5 _ 1 _ _ _ g_z
  have lt_z : w.heap.size < X5.heap.size := (Array.getElem?_eq_some_iff.1 g_z).1
  have hb_0 := hb.alloc hb.size (.cells #[.int .i64 aq0, .int .i64 aq1, .int .i64 aq2, .int .i64 aq3, .int .i64 aq4, .int .i64 aq5] 44)
  have g_z := heap_old g_z (.cells #[.int .i64 aq0, .int .i64 aq1, .int .i64 aq2, .int .i64 aq3, .int .i64 aq4, .int .i64 aq5] 44)
  have g_A := heap_alloc_new X5 (.cells #[.int .i64 aq0, .int .i64 aq1, .int .i64 aq2, .int .i64 aq3, .int .i64 aq4, .int .i64 aq5] 44)
  have HB5 := Lib.hid hb_0
  have HG5_z := Lib.hid g_z
  have HG5_A := Lib.hid g_A
  clear hB hb hb_0 g_z g_A HB4 HG4_z H5
  clear HG5_A
  go_wp2_with fail
  refine (H6.out _ HB5.out).mono ?_
  rintro e X6 ⟨rfl, hB⟩
  have hb := HB5.out.trans (hB.mono HB5.out.size)
  have g_z := (hB.block (w.heap.size) (Array.getElem?_eq_some_iff.1 HG5_z.out).1).trans HG5_z.out
  clear c_z_0 c_z_1 lt_z
  have c_z_0 : X6.cell? ⟨w.heap.size, 0, none⟩ = some (.int .i64 off) := cell_of_row X6 _ 0 _ _ _ g_z
  have c_z_1 : X6.cell? ⟨w.heap.size, 1, none⟩ = some (.slice (some ⟨b, o, none⟩) 1 cap) := cell_of_row X6 _ 1 _ _ _ g_z
  have lt_z : w.heap.size < X6.heap.size := (Array.getElem?_eq_some_iff.1 g_z).1
  have hb_0 := hb.alloc hb.size (.cells #[.int .i64 bq0, .int .i64 bq1, .int .i64 bq2, .int .i64 bq3, .int .i64 bq4, .int .i64 bq5] 44)
  have g_z := heap_old g_z (.cells #[.int .i64 bq0, .int .i64 bq1, .int .i64 bq2, .int .i64 bq3, .int .i64 bq4, .int .i64 bq5] 44)
  have g_B := heap_alloc_new X6 (.cells #[.int .i64 bq0, .int .i64 bq1, .int .i64 bq2, .int .i64 bq3, .int .i64 bq4, .int .i64 bq5] 44)
  have HB6 := Lib.hid hb_0
  have HG6_z := Lib.hid g_z
  have HG6_B := Lib.hid g_B
  clear hB hb hb_0 g_z g_B HB5 HG5_z H6
  go_wp2_with fail
  refine (H7.out _ HB6.out).mono ?_
  rintro e X7 ⟨rfl, hB⟩
  have hb := HB6.out.trans (hB.mono HB6.out.size)
  have g_z := (hB.block (w.heap.size) (Array.getElem?_eq_some_iff.1 HG6_z.out).1).trans HG6_z.out
  have g_B := (hB.block (X6.heap.size) (Array.getElem?_eq_some_iff.1 HG6_B.out).1).trans HG6_B.out
  clear c_z_0 c_z_1 lt_z
  have c_z_0 : X7.cell? ⟨w.heap.size, 0, none⟩ = some (.int .i64 off) := cell_of_row X7 _ 0 _ _ _ g_z
  have c_z_1 : X7.cell? ⟨w.heap.size, 1, none⟩ = some (.slice (some ⟨b, o, none⟩) 1 cap) := cell_of_row X7 _ 1 _ _ _ g_z
  have lt_z : w.heap.size < X7.heap.size := (Array.getElem?_eq_some_iff.1 g_z).1
  have hb_0 := hb.alloc hb.size (.cells #[.int .i64 cq0, .int .i64 cq1, .int .i64 cq2, .int .i64 cq3, .int .i64 cq4, .int .i64 cq5] 44)
  have g_z := heap_old g_z (.cells #[.int .i64 cq0, .int .i64 cq1, .int .i64 cq2, .int .i64 cq3, .int .i64 cq4, .int .i64 cq5] 44)
  have g_B := heap_old g_B (.cells #[.int .i64 cq0, .int .i64 cq1, .int .i64 cq2, .int .i64 cq3, .int .i64 cq4, .int .i64 cq5] 44)
  have g_C := heap_alloc_new X7 (.cells #[.int .i64 cq0, .int .i64 cq1, .int .i64 cq2, .int .i64 cq3, .int .i64 cq4, .int .i64 cq5] 44)
  have HB7 := Lib.hid hb_0
  have HG7_z := Lib.hid g_z
  have HG7_B := Lib.hid g_B
  have HG7_C := Lib.hid g_C
  clear hB hb hb_0 g_z g_B g_C HB6 HG6_z HG6_B H7
  clear HG7_C
  go_wp2_with fail
  refine (H8.out _ HB7.out).mono ?_
  rintro e X8 ⟨rfl, hB⟩
  have hb := HB7.out.trans (hB.mono HB7.out.size)
  have g_z := (hB.block (w.heap.size) (Array.getElem?_eq_some_iff.1 HG7_z.out).1).trans HG7_z.out
  have g_B := (hB.block (X6.heap.size) (Array.getElem?_eq_some_iff.1 HG7_B.out).1).trans HG7_B.out
  clear c_z_0 c_z_1 lt_z
  have c_B_0 : X8.cell? ⟨X6.heap.size, 0, none⟩ = some (.int .i64 bq0) := cell_of_row X8 _ 0 _ _ _ g_B
  have c_B_1 : X8.cell? ⟨X6.heap.size, 1, none⟩ = some (.int .i64 bq1) := cell_of_row X8 _ 1 _ _ _ g_B
  have c_B_2 : X8.cell? ⟨X6.heap.size, 2, none⟩ = some (.int .i64 bq2) := cell_of_row X8 _ 2 _ _ _ g_B
  have c_B_3 : X8.cell? ⟨X6.heap.size, 3, none⟩ = some (.int .i64 bq3) := cell_of_row X8 _ 3 _ _ _ g_B
  have c_B_4 : X8.cell? ⟨X6.heap.size, 4, none⟩ = some (.int .i64 bq4) := cell_of_row X8 _ 4 _ _ _ g_B
  have c_B_5 : X8.cell? ⟨X6.heap.size, 5, none⟩ = some (.int .i64 bq5) := cell_of_row X8 _ 5 _ _ _ g_B
  have lt_B : X6.heap.size < X8.heap.size := (Array.getElem?_eq_some_iff.1 g_B).1
  have hb_0 := hb.alloc hb.size (.cells #[.int .i64 dq0, .int .i64 dq1, .int .i64 dq2, .int .i64 dq3, .int .i64 dq4, .int .i64 dq5] 44)
  have g_z := heap_old g_z (.cells #[.int .i64 dq0, .int .i64 dq1, .int .i64 dq2, .int .i64 dq3, .int .i64 dq4, .int .i64 dq5] 44)
  have g_B := heap_old g_B (.cells #[.int .i64 dq0, .int .i64 dq1, .int .i64 dq2, .int .i64 dq3, .int .i64 dq4, .int .i64 dq5] 44)
  have g_D := heap_alloc_new X8 (.cells #[.int .i64 dq0, .int .i64 dq1, .int .i64 dq2, .int .i64 dq3, .int .i64 dq4, .int .i64 dq5] 44)
  have HB8 := Lib.hid hb_0
  have HG8_z := Lib.hid g_z
  have HG8_B := Lib.hid g_B
  have HG8_D := Lib.hid g_D
  clear hB hb hb_0 g_z g_B g_D HB7 HG7_z HG7_B H8
  go_wp2_with fail
  refine (H9.out _ HB8.out).mono ?_
  rintro e X9 ⟨rfl, hB⟩
  have hb := HB8.out.trans (hB.mono HB8.out.size)
  have g_z := (hB.block (w.heap.size) (Array.getElem?_eq_some_iff.1 HG8_z.out).1).trans HG8_z.out
  have g_B := (hB.block (X6.heap.size) (Array.getElem?_eq_some_iff.1 HG8_B.out).1).trans HG8_B.out
  have g_D := (hB.block (X8.heap.size) (Array.getElem?_eq_some_iff.1 HG8_D.out).1).trans HG8_D.out
  clear c_B_0 c_B_1 c_B_2 c_B_3 c_B_4 c_B_5 lt_B
  have c_D_0 : X9.cell? ⟨X8.heap.size, 0, none⟩ = some (.int .i64 dq0) := cell_of_row X9 _ 0 _ _ _ g_D
  have c_D_1 : X9.cell? ⟨X8.heap.size, 1, none⟩ = some (.int .i64 dq1) := cell_of_row X9 _ 1 _ _ _ g_D
  have c_D_2 : X9.cell? ⟨X8.heap.size, 2, none⟩ = some (.int .i64 dq2) := cell_of_row X9 _ 2 _ _ _ g_D
  have c_D_3 : X9.cell? ⟨X8.heap.size, 3, none⟩ = some (.int .i64 dq3) := cell_of_row X9 _ 3 _ _ _ g_D
  have c_D_4 : X9.cell? ⟨X8.heap.size, 4, none⟩ = some (.int .i64 dq4) := cell_of_row X9 _ 4 _ _ _ g_D
  have c_D_5 : X9.cell? ⟨X8.heap.size, 5, none⟩ = some (.int .i64 dq5) := cell_of_row X9 _ 5 _ _ _ g_D
  have lt_D : X8.heap.size < X9.heap.size := (Array.getElem?_eq_some_iff.1 g_D).1
  have HB9 := Lib.hid hb
  have HG9_z := Lib.hid g_z
  have HG9_B := Lib.hid g_B
  have HG9_D := Lib.hid g_D
  clear hB hb  g_z g_B g_D HB8 HG8_z HG8_B HG8_D H9
  go_wp2_with fail
  refine (H10.out _ HB9.out).mono ?_
  rintro e X10 ⟨rfl, hB⟩
  have hb := HB9.out.trans (hB.mono HB9.out.size)
  have g_z := (hB.block (w.heap.size) (Array.getElem?_eq_some_iff.1 HG9_z.out).1).trans HG9_z.out
  have g_B := (hB.block (X6.heap.size) (Array.getElem?_eq_some_iff.1 HG9_B.out).1).trans HG9_B.out
  have g_D := (hB.block (X8.heap.size) (Array.getElem?_eq_some_iff.1 HG9_D.out).1).trans HG9_D.out
  clear c_D_0 c_D_1 c_D_2 c_D_3 c_D_4 c_D_5 lt_D
  have HB10 := Lib.hid hb
  have HG10_z := Lib.hid g_z
  have HG10_B := Lib.hid g_B
  have HG10_D := Lib.hid g_D
  clear hB hb  g_z g_B g_D HB9 HG9_z HG9_B HG9_D H10
  clear HG10_B
  clear HG10_D
  go_wp2_with fail
  refine (H11.out _ HB10.out).mono ?_
  rintro e X11 ⟨rfl, hB⟩
  have hb := HB10.out.trans (hB.mono HB10.out.size)
  have g_z := (hB.block (w.heap.size) (Array.getElem?_eq_some_iff.1 HG10_z.out).1).trans HG10_z.out
  have hb_0 := hb.alloc hb.size (.cells #[.int .i64 eq0, .int .i64 eq1, .int .i64 eq2, .int .i64 eq3, .int .i64 eq4, .int .i64 eq5] 44)
  have g_z := heap_old g_z (.cells #[.int .i64 eq0, .int .i64 eq1, .int .i64 eq2, .int .i64 eq3, .int .i64 eq4, .int .i64 eq5] 44)
  have g_E := heap_alloc_new X11 (.cells #[.int .i64 eq0, .int .i64 eq1, .int .i64 eq2, .int .i64 eq3, .int .i64 eq4, .int .i64 eq5] 44)
  have HB11 := Lib.hid hb_0
  have HG11_z := Lib.hid g_z
  have HG11_E := Lib.hid g_E
  clear hB hb hb_0 g_z g_E HB10 HG10_z H11
  go_wp2_with fail
  refine (H12.out _ HB11.out).mono ?_
  rintro e X12 ⟨rfl, hB⟩
  have hb := HB11.out.trans (hB.mono HB11.out.size)
  have g_z := (hB.block (w.heap.size) (Array.getElem?_eq_some_iff.1 HG11_z.out).1).trans HG11_z.out
  have g_E := (hB.block (X11.heap.size) (Array.getElem?_eq_some_iff.1 HG11_E.out).1).trans HG11_E.out
  have c_z_0 : X12.cell? ⟨w.heap.size, 0, none⟩ = some (.int .i64 off) := cell_of_row X12 _ 0 _ _ _ g_z
  have c_z_1 : X12.cell? ⟨w.heap.size, 1, none⟩ = some (.slice (some ⟨b, o, none⟩) 1 cap) := cell_of_row X12 _ 1 _ _ _ g_z
  have lt_z : w.heap.size < X12.heap.size := (Array.getElem?_eq_some_iff.1 g_z).1
  have c_E_0 : X12.cell? ⟨X11.heap.size, 0, none⟩ = some (.int .i64 eq0) := cell_of_row X12 _ 0 _ _ _ g_E
  have c_E_1 : X12.cell? ⟨X11.heap.size, 1, none⟩ = some (.int .i64 eq1) := cell_of_row X12 _ 1 _ _ _ g_E
  have c_E_2 : X12.cell? ⟨X11.heap.size, 2, none⟩ = some (.int .i64 eq2) := cell_of_row X12 _ 2 _ _ _ g_E
  have c_E_3 : X12.cell? ⟨X11.heap.size, 3, none⟩ = some (.int .i64 eq3) := cell_of_row X12 _ 3 _ _ _ g_E
  have c_E_4 : X12.cell? ⟨X11.heap.size, 4, none⟩ = some (.int .i64 eq4) := cell_of_row X12 _ 4 _ _ _ g_E
  have c_E_5 : X12.cell? ⟨X11.heap.size, 5, none⟩ = some (.int .i64 eq5) := cell_of_row X12 _ 5 _ _ _ g_E
  have lt_E : X11.heap.size < X12.heap.size := (Array.getElem?_eq_some_iff.1 g_E).1
  have hb_0 := hb.alloc hb.size (.cells #[.int .i64 fq0, .int .i64 fq1, .int .i64 fq2, .int .i64 fq3, .int .i64 fq4, .int .i64 fq5] 44)
  have g_z := heap_old g_z (.cells #[.int .i64 fq0, .int .i64 fq1, .int .i64 fq2, .int .i64 fq3, .int .i64 fq4, .int .i64 fq5] 44)
  have g_E := heap_old g_E (.cells #[.int .i64 fq0, .int .i64 fq1, .int .i64 fq2, .int .i64 fq3, .int .i64 fq4, .int .i64 fq5] 44)
  have g_F := heap_alloc_new X12 (.cells #[.int .i64 fq0, .int .i64 fq1, .int .i64 fq2, .int .i64 fq3, .int .i64 fq4, .int .i64 fq5] 44)
  have HB12 := Lib.hid hb_0
  have HG12_z := Lib.hid g_z
  have HG12_E := Lib.hid g_E
  have HG12_F := Lib.hid g_F
  clear hB hb hb_0 g_z g_E g_F HB11 HG11_z HG11_E H12
  go_wp2_with fail
  refine (H13.out _ HB12.out).mono ?_
  rintro e X13 ⟨ak, ck, rfl, hO, hB⟩
  have hb := HB12.out.trans (hB.mono HB12.out.size)
  have g_z := (hB.block (w.heap.size) (Array.getElem?_eq_some_iff.1 HG12_z.out).1).trans HG12_z.out
  have g_E := (hB.block (X11.heap.size) (Array.getElem?_eq_some_iff.1 HG12_E.out).1).trans HG12_E.out
  have g_F := (hB.block (X12.heap.size) (Array.getElem?_eq_some_iff.1 HG12_F.out).1).trans HG12_F.out
  clear c_z_0 c_z_1 lt_z c_E_0 c_E_1 c_E_2 c_E_3 c_E_4 c_E_5 lt_E
  have c_z_0 : X13.cell? ⟨w.heap.size, 0, none⟩ = some (.int .i64 off) := cell_of_row X13 _ 0 _ _ _ g_z
  have c_z_1 : X13.cell? ⟨w.heap.size, 1, none⟩ = some (.slice (some ⟨b, o, none⟩) 1 cap) := cell_of_row X13 _ 1 _ _ _ g_z
  have lt_z : w.heap.size < X13.heap.size := (Array.getElem?_eq_some_iff.1 g_z).1
  have c_F_0 : X13.cell? ⟨X12.heap.size, 0, none⟩ = some (.int .i64 fq0) := cell_of_row X13 _ 0 _ _ _ g_F
  have c_F_1 : X13.cell? ⟨X12.heap.size, 1, none⟩ = some (.int .i64 fq1) := cell_of_row X13 _ 1 _ _ _ g_F
  have c_F_2 : X13.cell? ⟨X12.heap.size, 2, none⟩ = some (.int .i64 fq2) := cell_of_row X13 _ 2 _ _ _ g_F
  have c_F_3 : X13.cell? ⟨X12.heap.size, 3, none⟩ = some (.int .i64 fq3) := cell_of_row X13 _ 3 _ _ _ g_F
  have c_F_4 : X13.cell? ⟨X12.heap.size, 4, none⟩ = some (.int .i64 fq4) := cell_of_row X13 _ 4 _ _ _ g_F
  have c_F_5 : X13.cell? ⟨X12.heap.size, 5, none⟩ = some (.int .i64 fq5) := cell_of_row X13 _ 5 _ _ _ g_F
  have lt_F : X12.heap.size < X13.heap.size := (Array.getElem?_eq_some_iff.1 g_F).1
  have HB13 := Lib.hid hb
  have HG13_z := Lib.hid g_z
  have HG13_E := Lib.hid g_E
  have HG13_F := Lib.hid g_F
  clear hB hb  g_z g_E g_F HB12 HG12_z HG12_E HG12_F H13 hO
  go_wp2_with fail
  refine (H14.out _ HB13.out).mono ?_
  rintro e X14 ⟨al, cl, rfl, hO, hB⟩
  have hb := HB13.out.trans (hB.mono HB13.out.size)
  have g_z := (hB.block (w.heap.size) (Array.getElem?_eq_some_iff.1 HG13_z.out).1).trans HG13_z.out
  have g_E := (hB.block (X11.heap.size) (Array.getElem?_eq_some_iff.1 HG13_E.out).1).trans HG13_E.out
  have g_F := (hB.block (X12.heap.size) (Array.getElem?_eq_some_iff.1 HG13_F.out).1).trans HG13_F.out
  clear c_z_0 c_z_1 lt_z c_F_0 c_F_1 c_F_2 c_F_3 c_F_4 c_F_5 lt_F
  obtain ⟨bl, ol, rfl, hbx, hcl⟩ := at64_of_bys hO.bys 0 (by simp)
  obtain ⟨bl', ol', e', hbx', hcl2⟩ := at64_of_bys hO.bys 1 (by simp)
  cases e'
  simp only [List.getD_cons_zero, List.getD_cons_succ, Nat.add_zero] at hcl hcl2
  have hdd : V2 + x - 1 - off - (V2 - 1 - off) = x := by omega
  have hww : IntKind.i64.wrap (V2 + x - 1 - off - (V2 - 1 - off)) = x := by rw [hdd]; simp only [IntKind.wrap_i64, wrap64]; omega
  clear hdd
  have HB14 := Lib.hid hb
  have HG14_z := Lib.hid g_z
  have HG14_E := Lib.hid g_E
  have HG14_F := Lib.hid g_F
  clear hB hb  g_z g_E g_F HB13 HG13_z HG13_E HG13_F H14 hO
  go_wp2_with fail
  go_quiet (fail)
  go_wp2
  go_ret
  exact ⟨rfl, below_drewN HB14.out _⟩
theorem zoneEdges_any (off : Int) (a : Option Addr) (len cap : Nat) (R : Nat → Rl) (y : Int) (w : World) (hT : Tabs w) (w0 : In64 off ∧ RulesAt w.heap.size w a len R) (w1 : (Lit.int .i64 y).wf = true) :
    Calls Tryd.prog 7 #[zoneV off a len cap, .int .i64 y] w fun e w' => e = .returned (.bool true) ∧ Below w.heap.size w w' := by
  have hR := w0.2
  have hy := in64_of w1
  by_cases hl : len = 1
  · by_cases hz : ZoneIs off R len
    · rcases rule_cases R len y with ⟨k, hk, hi, hof⟩ | hi
      · obtain rfl : k = 0 := by omega
        by_cases d1 : 9999 ≤ y
        · exact edges_high off y a len cap R w hT hR hy hl hz hi hof d1
        · by_cases d2 : y ≤ 1970
          · exact edges_low off y a len cap R w hT hR hy hl hz hi hof d2
          · by_cases d3 : onOf (R 0) y - off < secOf y 1 3 0 0 0 ∨ secOf y 12 29 0 0 0 < offOf (R 0) y - off ∨ offOf (R 0) y - off - (onOf (R 0) y - off) < 86400
            · exact edges_far off y a len cap R w hT hR hy hl hz hi hof (by omega) (by omega) d3
            · subst hl
              obtain ⟨s1, s2⟩ := sec_13 (y := y) (by omega)
              obtain ⟨s3, s4⟩ := sec_29 (y := y) (by omega)
              rw [s2, s4] at d3
              have hoff := hz.1
              have hx := (hz.2.2 0 (by omega)).2.1
              exact edges_main off y a cap R w hT hR hz hi hof (by omega) (by omega) (onOf (R 0) y) (offOf (R 0) y) (R 0).x ⟨hz, hi, rfl, rfl, rfl, hx.1, hx.2, by omega, by omega, by omega, by omega, by omega⟩ (by omega) (by omega)
      · exact edges_none off y a len cap R w hT hR hy hl (.inr hi)
    · exact edges_none off y a len cap R w hT hR hy hl (.inl hz)
  · exact edges_len off y a len cap R w hT hR hy hl
end Go.Proofs.YtobnlcmamnoefaaDoor
