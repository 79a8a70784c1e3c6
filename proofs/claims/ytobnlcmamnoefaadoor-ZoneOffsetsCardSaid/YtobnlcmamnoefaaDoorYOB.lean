/- The walk of the statement ZoneOffsets, with a rule of the year. -/
import Derived.Test.YtobnlcmamnoefaaDoorYOA
set_option linter.unusedVariables false
set_option linter.unusedSimpArgs false
namespace Go.Proofs.YtobnlcmamnoefaaDoor
open Go.RowKit Go.Shelf
set_option maxRecDepth 100000 in
set_option maxHeartbeats 8000000 in
theorem offsets_r0 (off yr t : Int) (a : Option Addr) (len cap : Nat) (R : Nat → Rl) (w : World) (hR : RulesAt w.heap.size w a len R) (hT : Tabs w) (ht0 : In64 t) (hz : ZoneIs off R len) (k : Nat) (hk : k < len) (hi : ruleI R len yr = k) (hy : (R k).of yr) (hO : OffIs off R len t) (N : Int) (hN : N = xOf R len (yearI (t + off)) (t + off)) (hN0 : N = 0) (L : Int) (hL0 : L = t + offT off R len t) (y m d : Int) (hd : IsDate (L / 86400) y m d) :
    Calls Tryd.prog 3 #[zoneV off a len cap, .int .i64 yr, .int .i64 t] w fun e w' => e = .returned (.bool true) ∧ Below w.heap.size w w' := by
  have hll : len ≤ 1000 := by have := hz.2.1; omega
  have hli : (len : Int) ≤ 100 := by have := hz.2.1; omega
  have hoff := hz.1
  have H1 := Lib.hid (fun X (hX : Below w.heap.size w X) => rmayZ_any off a len cap R X hll ((hR.next hX).mono hX.size))
  rw [decide_eq_true hz] at H1
  have H2 := Lib.hid (fun X (hX : Below w.heap.size w X) => checkZ_any off a len cap R X hll ((hR.next hX).mono hX.size))
  rw [zE_yes hz] at H2
  have H3 := Lib.hid (fun X (hX : Below w.heap.size w X) => ofZ_any off a len cap R yr X hll ((hR.next hX).mono hX.size))
  rw [show ofR off R len yr = ruleR R len yr by unfold ofR; rw [if_pos hz], show ofB off R len yr = ruleB R len yr by unfold ofB; rw [if_pos hz]] at H3
  have H5 := Lib.hid (fun X (hX : Below w.heap.size w X) => rrule_any off a len cap R yr X hll ((hR.next hX).mono hX.size))
  rw [hi] at H5
  obtain ⟨e1, e2⟩ := ruleR_some hi
  rw [e1, e2] at H3
  have hrz := hz.2.2 k hk
  have hyy := rl_year hrz hy
  have hv1 := at_bounds hyy hrz.2.2.1
  have hv2 := at_bounds hyy hrz.2.2.2
  rw [show atV yr (R k).m1 (R k).w1 (R k).n1 (R k).t1 = onOf (R k) yr from rfl] at hv1
  rw [show atV yr (R k).m2 (R k).w2 (R k).n2 (R k).t2 = offOf (R k) yr from rfl] at hv2
  have H4 := Lib.hid (fun X (hX : Below w.heap.size w X) => edgesZ_yes off a len cap R yr X ((hR.next hX).mono hX.size) hz (hT.next hX) k hk hi hy)
  have H6 := Lib.hid (fun X (hX : Below w.heap.size w X) => redges_yes off a len cap R yr X hll ((hR.next hX).mono hX.size) k hk hi hrz hy)
  obtain ⟨V1, hV1⟩ : ∃ v, v = onOf (R k) yr := ⟨_, rfl⟩
  obtain ⟨V2, hV2⟩ : ∃ v, v = offOf (R k) yr := ⟨_, rfl⟩
  rw [← hV1] at hv1 H4 H6
  rw [← hV2] at hv2 H4 H6
  have hw1 : IntKind.i64.wrap (V1 - off) = V1 - off := by simp only [IntKind.wrap_i64, wrap64]; omega
  have hw2 : IntKind.i64.wrap (V2 - off) = V2 - off := by simp only [IntKind.wrap_i64, wrap64]; omega
  obtain ⟨b, o, rfl, hb, hrl⟩ := hR k hk
  have HRL := Lib.hid hrl
  have hki : (k : Int) < len := by omega
  have hk0 : decide ((0 : Int) ≤ (k : Int)) = true := decide_eq_true (by omega)
  have hx := offT_x off R len t
  have hNb := xOf_bounds hz (yearI (t + off)) (t + off)
  rw [← hN] at hx hNb
  have hO2 := hO
  obtain ⟨⟨o1, o2⟩, o3⟩ := hO2
  have o4 : t + offT off R len t < 253402300800 := o3
  obtain ⟨n, hn⟩ : ∃ n, n = offT off R len t := ⟨_, rfl⟩
  have hL : t + n = L := by omega
  have hnx : n = off + N := by omega
  have l0 : 0 ≤ L := by omega
  have l1 : L < 253402300800 := by omega
  have H7 := Lib.hid (fun X (hX : Below w.heap.size w X) => offsetZ_walk off t (some ⟨b, o, none⟩) len cap R X ((hR.next hX).mono hX.size) y m d (L % 86400 / 3600) (L % 3600 / 60) (L % 60) _ 0 n (fun Y hY => localOf_yes off t (some ⟨b, o, none⟩) len cap R Y ((hR.next (hX.trans (hY.mono hX.size))).mono (Nat.le_trans hX.size hY.size)) hz (hT.next (hX.trans (hY.mono hX.size))) hO L hL0 y m d hd) (.inl ⟨rfl, hoff, by rw [← hN]; exact hNb, by rw [← hN]; exact hnx⟩))
  have H8 := Lib.hid (fun X (hX : Below w.heap.size w X) => (roffset_any off t (some ⟨b, o, none⟩) len cap R X ((hR.next hX).mono hX.size) hz).elim (fun h => h.2) (fun h => absurd hO h.1))
  rw [show nOf off R len (yearI (t + off)) (t + off) = n by rw [hn]; rfl] at H8
  have H9 := Lib.hid (fun X (hX : Below w.heap.size w X) => localZ_walk off t (some ⟨b, o, none⟩) len cap R X ((hR.next hX).mono hX.size) y m d (L % 86400 / 3600) (L % 3600 / 60) (L % 60) _ 0 (fun Y hY => localOf_yes off t (some ⟨b, o, none⟩) len cap R Y ((hR.next (hX.trans (hY.mono hX.size))).mono (Nat.le_trans hX.size hY.size)) hz (hT.next (hX.trans (hY.mono hX.size))) hO L hL0 y m d hd))
  rw [← hN] at H9
  have H10 := Lib.hid (fun X (hX : Below w.heap.size w X) => dayZ_walk off t (some ⟨b, o, none⟩) len cap R X ((hR.next hX).mono hX.size) (hT.next hX) y m d (L % 86400 / 3600) (L % 3600 / 60) (L % 60) _ (L / 86400) (fun Y hY => localOf_yes off t (some ⟨b, o, none⟩) len cap R Y ((hR.next (hX.trans (hY.mono hX.size))).mono (Nat.le_trans hX.size hY.size)) hz (hT.next (hX.trans (hY.mono hX.size))) hO L hL0 y m d hd) hd (by omega) (by omega))
  rw [show L % 86400 / 3600 * 60 + L % 3600 / 60 = L % 86400 / 60 by omega] at H10
  have H11 := Lib.hid (fun X => rof_is (L / 86400) y m d hd X)
  rw [hN0, show ((0 : Int) != 0) = false from rfl] at H9
  obtain rfl : n = off := by omega
  have hb0 := (Below.refl _ w).alloc (Nat.le_refl _) (.cells #[.int .i64 n, .slice (some ⟨b, o, none⟩) len cap] 24)
  have HB0 := Lib.hid hb0
  have Hz0 := Lib.hid (heap_alloc_new w (.cells #[.int .i64 n, .slice (some ⟨b, o, none⟩) len cap] 24))
  clear hO hN hN0 hL0 hn hx hNb o1 o2 o3 o4 hnx hd
  obtain ⟨r, hr⟩ : ∃ r, r = R k := ⟨_, rfl⟩
  rw [← hr] at H3 HRL
  clear hV1 hV2 hr hrz hyy e1 e2 hi hy hk hrl
  obtain ⟨f, l, m1, w1, n1, t1, m2, w2, n2, t2, x⟩ := r
  clear hb0 hR hT hz hll ht0
  go_enter Tryd.func3, Tryd.ntmps3
  go_wp2_with fail
  refine (H1.out _ HB0.out).mono ?_
  rintro e X1 ⟨rfl, hB⟩
  have hb := HB0.out.trans (hB.mono HB0.out.size)
  have hz := (hB.block (w.heap.size) (Array.getElem?_eq_some_iff.1 Hz0.out).1).trans Hz0.out
  have HB1 := Lib.hid hb
  have Hz1 := Lib.hid hz
  have z1_0 : X1.cell? ⟨w.heap.size, 0, none⟩ = some (.int .i64 n) := cell_of_row X1 _ 0 _ _ _ hz
  have z1_1 : X1.cell? ⟨w.heap.size, 1, none⟩ = some (.slice (some ⟨b, o, none⟩) len cap) := cell_of_row X1 _ 1 _ _ _ hz
  clear hB hb hz HB0 Hz0
  go_wp2_with fail
  refine (H2.out _ HB1.out).mono ?_
  rintro e X2 ⟨rfl, hB⟩
  have hb := HB1.out.trans (hB.mono HB1.out.size)
  have hz := (hB.block (w.heap.size) (Array.getElem?_eq_some_iff.1 Hz1.out).1).trans Hz1.out
  have HB2 := Lib.hid hb
  have Hz2 := Lib.hid hz
  have z2_0 : X2.cell? ⟨w.heap.size, 0, none⟩ = some (.int .i64 n) := cell_of_row X2 _ 0 _ _ _ hz
  have z2_1 : X2.cell? ⟨w.heap.size, 1, none⟩ = some (.slice (some ⟨b, o, none⟩) len cap) := cell_of_row X2 _ 1 _ _ _ hz
  clear hB hb hz HB1 Hz1 z1_0 z1_1
  go_wp2_with fail
  refine (H3.out _ HB2.out).mono ?_
  rintro e X3 ⟨rfl, hB⟩
  have hb := HB2.out.trans (hB.mono HB2.out.size)
  have hz := (hB.block (w.heap.size) (Array.getElem?_eq_some_iff.1 Hz2.out).1).trans Hz2.out
  have hb2 := hb.alloc hb.size (.cells #[.int .i64 f, .int .i64 l, .int .i64 m1, .int .i64 w1, .int .i64 n1, .int .i64 t1, .int .i64 m2, .int .i64 w2, .int .i64 n2, .int .i64 t2, .int .i64 x] 31)
  have HB3 := Lib.hid hb2
  have ltz : w.heap.size < X3.heap.size := (Array.getElem?_eq_some_iff.1 hz).1
  have Hz3 := Lib.hid (heap_old hz (.cells #[.int .i64 f, .int .i64 l, .int .i64 m1, .int .i64 w1, .int .i64 n1, .int .i64 t1, .int .i64 m2, .int .i64 w2, .int .i64 n2, .int .i64 t2, .int .i64 x] 31))
  have Hr3 := Lib.hid (heap_alloc_new X3 (.cells #[.int .i64 f, .int .i64 l, .int .i64 m1, .int .i64 w1, .int .i64 n1, .int .i64 t1, .int .i64 m2, .int .i64 w2, .int .i64 n2, .int .i64 t2, .int .i64 x] 31))
  have z3_0 : X3.cell? ⟨w.heap.size, 0, none⟩ = some (.int .i64 n) := cell_of_row X3 _ 0 _ _ _ hz
  have z3_1 : X3.cell? ⟨w.heap.size, 1, none⟩ = some (.slice (some ⟨b, o, none⟩) len cap) := cell_of_row X3 _ 1 _ _ _ hz
  clear hB hb hz HB2 Hz2 hb2 z2_0 z2_1
  go_wp2_with fail
  refine (H4.out _ HB3.out).mono ?_
  rintro e X4 ⟨rfl, hB⟩
  have hb := HB3.out.trans (hB.mono HB3.out.size)
  have hz := (hB.block (w.heap.size) (Array.getElem?_eq_some_iff.1 Hz3.out).1).trans Hz3.out
  have hr := (hB.block (X3.heap.size) (Array.getElem?_eq_some_iff.1 Hr3.out).1).trans Hr3.out
  have HB4 := Lib.hid hb
  have Hz4 := Lib.hid hz
  have Hr4 := Lib.hid hr
  have z4_0 : X4.cell? ⟨w.heap.size, 0, none⟩ = some (.int .i64 n) := cell_of_row X4 _ 0 _ _ _ hz
  have z4_1 : X4.cell? ⟨w.heap.size, 1, none⟩ = some (.slice (some ⟨b, o, none⟩) len cap) := cell_of_row X4 _ 1 _ _ _ hz
  clear hB hb hz hr HB3 Hz3 Hr3 z3_0 z3_1
  go_wp2_with fail
  refine (H5.out _ HB4.out).mono ?_
  rintro e X5 ⟨rfl, hB⟩
  have hb := HB4.out.trans (hB.mono HB4.out.size)
  have hz := (hB.block (w.heap.size) (Array.getElem?_eq_some_iff.1 Hz4.out).1).trans Hz4.out
  have hr := (hB.block (X3.heap.size) (Array.getElem?_eq_some_iff.1 Hr4.out).1).trans Hr4.out
  have HB5 := Lib.hid hb
  have Hz5 := Lib.hid hz
  have Hr5 := Lib.hid hr
  have z5_0 : X5.cell? ⟨w.heap.size, 0, none⟩ = some (.int .i64 n) := cell_of_row X5 _ 0 _ _ _ hz
  have z5_1 : X5.cell? ⟨w.heap.size, 1, none⟩ = some (.slice (some ⟨b, o, none⟩) len cap) := cell_of_row X5 _ 1 _ _ _ hz
  clear hB hb hz hr HB4 Hz4 Hr4 z4_0 z4_1
  go_wp2_with fail
  refine (H6.out _ HB5.out).mono ?_
  rintro e X6 ⟨rfl, hB⟩
  have hb := HB5.out.trans (hB.mono HB5.out.size)
  have hz := (hB.block (w.heap.size) (Array.getElem?_eq_some_iff.1 Hz5.out).1).trans Hz5.out
  have hr := (hB.block (X3.heap.size) (Array.getElem?_eq_some_iff.1 Hr5.out).1).trans Hr5.out
  have HB6 := Lib.hid hb
  have Hz6 := Lib.hid hz
  have Hr6 := Lib.hid hr
  have z6_0 : X6.cell? ⟨w.heap.size, 0, none⟩ = some (.int .i64 n) := cell_of_row X6 _ 0 _ _ _ hz
  have z6_1 : X6.cell? ⟨w.heap.size, 1, none⟩ = some (.slice (some ⟨b, o, none⟩) len cap) := cell_of_row X6 _ 1 _ _ _ hz
  have r6_0 : X6.cell? ⟨X3.heap.size, 0, none⟩ = some (.int .i64 f) := cell_of_row X6 _ 0 _ _ _ hr
  have r6_1 : X6.cell? ⟨X3.heap.size, 1, none⟩ = some (.int .i64 l) := cell_of_row X6 _ 1 _ _ _ hr
  have r6_2 : X6.cell? ⟨X3.heap.size, 2, none⟩ = some (.int .i64 m1) := cell_of_row X6 _ 2 _ _ _ hr
  have r6_3 : X6.cell? ⟨X3.heap.size, 3, none⟩ = some (.int .i64 w1) := cell_of_row X6 _ 3 _ _ _ hr
  have r6_4 : X6.cell? ⟨X3.heap.size, 4, none⟩ = some (.int .i64 n1) := cell_of_row X6 _ 4 _ _ _ hr
  have r6_5 : X6.cell? ⟨X3.heap.size, 5, none⟩ = some (.int .i64 t1) := cell_of_row X6 _ 5 _ _ _ hr
  have r6_6 : X6.cell? ⟨X3.heap.size, 6, none⟩ = some (.int .i64 m2) := cell_of_row X6 _ 6 _ _ _ hr
  have r6_7 : X6.cell? ⟨X3.heap.size, 7, none⟩ = some (.int .i64 w2) := cell_of_row X6 _ 7 _ _ _ hr
  have r6_8 : X6.cell? ⟨X3.heap.size, 8, none⟩ = some (.int .i64 n2) := cell_of_row X6 _ 8 _ _ _ hr
  have r6_9 : X6.cell? ⟨X3.heap.size, 9, none⟩ = some (.int .i64 t2) := cell_of_row X6 _ 9 _ _ _ hr
  have r6_10 : X6.cell? ⟨X3.heap.size, 10, none⟩ = some (.int .i64 x) := cell_of_row X6 _ 10 _ _ _ hr
  clear hB hb hz hr HB5 Hz5 Hr5 z5_0 z5_1
  have hrl := HRL.out.below hb HB6.out
  obtain ⟨q0, q1, q2, q3, q4, q5, q6, q7, q8, q9, q10⟩ := hrl
  simp only [] at q0 q1 q2 q3 q4 q5 q6 q7 q8 q9 q10
  go_wp2_with fail
  go_quiet (fail)
  clear q0 q1 q2 q3 q4 q5 q6 q7 q8 q9 q10 r6_0 r6_1 r6_2 r6_3 r6_4 r6_5 r6_6 r6_7 r6_8 r6_9 r6_10
  have HBD := Lib.hid (fun q => below_drewN HB6.out q)
  clear HB6
  have HB6 := HBD
  clear HBD
  skip
  go_wp2_with fail
  refine (H7.out _ (HB6.out _)).mono ?_
  rintro e X7 ⟨rfl, hB⟩
  have hb := (HB6.out _).trans (hB.mono (HB6.out 0).size)
  have hz := (hB.block w.heap.size (Array.getElem?_eq_some_iff.1 Hz6.out).1).trans Hz6.out
  have HB7 := Lib.hid hb
  have Hz7 := Lib.hid hz
  have z7_0 : X7.cell? ⟨w.heap.size, 0, none⟩ = some (.int .i64 n) := cell_of_row X7 _ 0 _ _ _ hz
  have z7_1 : X7.cell? ⟨w.heap.size, 1, none⟩ = some (.slice (some ⟨b, o, none⟩) len cap) := cell_of_row X7 _ 1 _ _ _ hz
  clear hB hb hz HB6 Hz6 z6_0 z6_1
  go_wp2_with fail
  refine (H8.out _ HB7.out).mono ?_
  rintro e X8 ⟨rfl, hB⟩
  have hb := HB7.out.trans (hB.mono HB7.out.size)
  have hz := (hB.block (w.heap.size) (Array.getElem?_eq_some_iff.1 Hz7.out).1).trans Hz7.out
  have HB8 := Lib.hid hb
  have Hz8 := Lib.hid hz
  have z8_0 : X8.cell? ⟨w.heap.size, 0, none⟩ = some (.int .i64 n) := cell_of_row X8 _ 0 _ _ _ hz
  have z8_1 : X8.cell? ⟨w.heap.size, 1, none⟩ = some (.slice (some ⟨b, o, none⟩) len cap) := cell_of_row X8 _ 1 _ _ _ hz
  clear hB hb hz HB7 Hz7 z7_0 z7_1
  go_wp2_with fail
  refine (H9.out _ HB8.out).mono ?_
  rintro e X9 ⟨rfl, hB⟩
  have hb := HB8.out.trans (hB.mono HB8.out.size)
  have hz := (hB.block (w.heap.size) (Array.getElem?_eq_some_iff.1 Hz8.out).1).trans Hz8.out
  have hb2 := hb.alloc hb.size (.cells #[.int .i64 y, .int .i64 m, .int .i64 d, .int .i64 (L % 86400 / 3600), .int .i64 (L % 3600 / 60), .int .i64 (L % 60)] 44)
  have HB9 := Lib.hid hb2
  have ltz : w.heap.size < X9.heap.size := (Array.getElem?_eq_some_iff.1 hz).1
  have Hz9 := Lib.hid (heap_old hz (.cells #[.int .i64 y, .int .i64 m, .int .i64 d, .int .i64 (L % 86400 / 3600), .int .i64 (L % 3600 / 60), .int .i64 (L % 60)] 44))
  have Hm9 := Lib.hid (heap_alloc_new X9 (.cells #[.int .i64 y, .int .i64 m, .int .i64 d, .int .i64 (L % 86400 / 3600), .int .i64 (L % 3600 / 60), .int .i64 (L % 60)] 44))
  have z9_0 : X9.cell? ⟨w.heap.size, 0, none⟩ = some (.int .i64 n) := cell_of_row X9 _ 0 _ _ _ hz
  have z9_1 : X9.cell? ⟨w.heap.size, 1, none⟩ = some (.slice (some ⟨b, o, none⟩) len cap) := cell_of_row X9 _ 1 _ _ _ hz
  clear hB hb hz HB8 Hz8 hb2 z8_0 z8_1
  go_wp2_with fail
  refine (H10.out _ HB9.out).mono ?_
  rintro e X10 ⟨rfl, hB⟩
  have hb := HB9.out.trans (hB.mono HB9.out.size)
  have hz := (hB.block (w.heap.size) (Array.getElem?_eq_some_iff.1 Hz9.out).1).trans Hz9.out
  have hm := (hB.block (X9.heap.size) (Array.getElem?_eq_some_iff.1 Hm9.out).1).trans Hm9.out
  have HB10 := Lib.hid hb
  have Hz10 := Lib.hid hz
  have Hm10 := Lib.hid hm
  have z10_0 : X10.cell? ⟨w.heap.size, 0, none⟩ = some (.int .i64 n) := cell_of_row X10 _ 0 _ _ _ hz
  have z10_1 : X10.cell? ⟨w.heap.size, 1, none⟩ = some (.slice (some ⟨b, o, none⟩) len cap) := cell_of_row X10 _ 1 _ _ _ hz
  have m10_0 : X10.cell? ⟨X9.heap.size, 0, none⟩ = some (.int .i64 y) := cell_of_row X10 _ 0 _ _ _ hm
  have m10_1 : X10.cell? ⟨X9.heap.size, 1, none⟩ = some (.int .i64 m) := cell_of_row X10 _ 1 _ _ _ hm
  have m10_2 : X10.cell? ⟨X9.heap.size, 2, none⟩ = some (.int .i64 d) := cell_of_row X10 _ 2 _ _ _ hm
  have m10_3 : X10.cell? ⟨X9.heap.size, 3, none⟩ = some (.int .i64 (L % 86400 / 3600)) := cell_of_row X10 _ 3 _ _ _ hm
  have m10_4 : X10.cell? ⟨X9.heap.size, 4, none⟩ = some (.int .i64 (L % 3600 / 60)) := cell_of_row X10 _ 4 _ _ _ hm
  have m10_5 : X10.cell? ⟨X9.heap.size, 5, none⟩ = some (.int .i64 (L % 60)) := cell_of_row X10 _ 5 _ _ _ hm
  clear hB hb hz hm HB9 Hz9 Hm9 z9_0 z9_1
  go_wp2_with (first | (go_at_call 19; refine (H11.out _).mono ?_; rintro e w' ⟨rfl, rfl⟩))
  go_ret
  exact ⟨rfl, HB10.out⟩
set_option maxRecDepth 100000 in
set_option maxHeartbeats 8000000 in
theorem offsets_r1 (off yr t : Int) (a : Option Addr) (len cap : Nat) (R : Nat → Rl) (w : World) (hR : RulesAt w.heap.size w a len R) (hT : Tabs w) (ht0 : In64 t) (hz : ZoneIs off R len) (k : Nat) (hk : k < len) (hi : ruleI R len yr = k) (hy : (R k).of yr) (hO : OffIs off R len t) (N : Int) (hN : N = xOf R len (yearI (t + off)) (t + off)) (hN0 : N ≠ 0) (L : Int) (hL0 : L = t + offT off R len t) (y m d : Int) (hd : IsDate (L / 86400) y m d) :
    Calls Tryd.prog 3 #[zoneV off a len cap, .int .i64 yr, .int .i64 t] w fun e w' => e = .returned (.bool true) ∧ Below w.heap.size w w' := by
  have hll : len ≤ 1000 := by have := hz.2.1; omega
  have hli : (len : Int) ≤ 100 := by have := hz.2.1; omega
  have hoff := hz.1
  have H1 := Lib.hid (fun X (hX : Below w.heap.size w X) => rmayZ_any off a len cap R X hll ((hR.next hX).mono hX.size))
  rw [decide_eq_true hz] at H1
  have H2 := Lib.hid (fun X (hX : Below w.heap.size w X) => checkZ_any off a len cap R X hll ((hR.next hX).mono hX.size))
  rw [zE_yes hz] at H2
  have H3 := Lib.hid (fun X (hX : Below w.heap.size w X) => ofZ_any off a len cap R yr X hll ((hR.next hX).mono hX.size))
  rw [show ofR off R len yr = ruleR R len yr by unfold ofR; rw [if_pos hz], show ofB off R len yr = ruleB R len yr by unfold ofB; rw [if_pos hz]] at H3
  have H5 := Lib.hid (fun X (hX : Below w.heap.size w X) => rrule_any off a len cap R yr X hll ((hR.next hX).mono hX.size))
  rw [hi] at H5
  obtain ⟨e1, e2⟩ := ruleR_some hi
  rw [e1, e2] at H3
  have hrz := hz.2.2 k hk
  have hyy := rl_year hrz hy
  have hv1 := at_bounds hyy hrz.2.2.1
  have hv2 := at_bounds hyy hrz.2.2.2
  rw [show atV yr (R k).m1 (R k).w1 (R k).n1 (R k).t1 = onOf (R k) yr from rfl] at hv1
  rw [show atV yr (R k).m2 (R k).w2 (R k).n2 (R k).t2 = offOf (R k) yr from rfl] at hv2
  have H4 := Lib.hid (fun X (hX : Below w.heap.size w X) => edgesZ_yes off a len cap R yr X ((hR.next hX).mono hX.size) hz (hT.next hX) k hk hi hy)
  have H6 := Lib.hid (fun X (hX : Below w.heap.size w X) => redges_yes off a len cap R yr X hll ((hR.next hX).mono hX.size) k hk hi hrz hy)
  obtain ⟨V1, hV1⟩ : ∃ v, v = onOf (R k) yr := ⟨_, rfl⟩
  obtain ⟨V2, hV2⟩ : ∃ v, v = offOf (R k) yr := ⟨_, rfl⟩
  rw [← hV1] at hv1 H4 H6
  rw [← hV2] at hv2 H4 H6
  have hw1 : IntKind.i64.wrap (V1 - off) = V1 - off := by simp only [IntKind.wrap_i64, wrap64]; omega
  have hw2 : IntKind.i64.wrap (V2 - off) = V2 - off := by simp only [IntKind.wrap_i64, wrap64]; omega
  obtain ⟨b, o, rfl, hb, hrl⟩ := hR k hk
  have HRL := Lib.hid hrl
  have hki : (k : Int) < len := by omega
  have hk0 : decide ((0 : Int) ≤ (k : Int)) = true := decide_eq_true (by omega)
  have hx := offT_x off R len t
  have hNb := xOf_bounds hz (yearI (t + off)) (t + off)
  rw [← hN] at hx hNb
  have hO2 := hO
  obtain ⟨⟨o1, o2⟩, o3⟩ := hO2
  have o4 : t + offT off R len t < 253402300800 := o3
  obtain ⟨n, hn⟩ : ∃ n, n = offT off R len t := ⟨_, rfl⟩
  have hL : t + n = L := by omega
  have hnx : n = off + N := by omega
  have l0 : 0 ≤ L := by omega
  have l1 : L < 253402300800 := by omega
  have H7 := Lib.hid (fun X (hX : Below w.heap.size w X) => offsetZ_walk off t (some ⟨b, o, none⟩) len cap R X ((hR.next hX).mono hX.size) y m d (L % 86400 / 3600) (L % 3600 / 60) (L % 60) _ 0 n (fun Y hY => localOf_yes off t (some ⟨b, o, none⟩) len cap R Y ((hR.next (hX.trans (hY.mono hX.size))).mono (Nat.le_trans hX.size hY.size)) hz (hT.next (hX.trans (hY.mono hX.size))) hO L hL0 y m d hd) (.inl ⟨rfl, hoff, by rw [← hN]; exact hNb, by rw [← hN]; exact hnx⟩))
  have H8 := Lib.hid (fun X (hX : Below w.heap.size w X) => (roffset_any off t (some ⟨b, o, none⟩) len cap R X ((hR.next hX).mono hX.size) hz).elim (fun h => h.2) (fun h => absurd hO h.1))
  rw [show nOf off R len (yearI (t + off)) (t + off) = n by rw [hn]; rfl] at H8
  have H9 := Lib.hid (fun X (hX : Below w.heap.size w X) => localZ_walk off t (some ⟨b, o, none⟩) len cap R X ((hR.next hX).mono hX.size) y m d (L % 86400 / 3600) (L % 3600 / 60) (L % 60) _ 0 (fun Y hY => localOf_yes off t (some ⟨b, o, none⟩) len cap R Y ((hR.next (hX.trans (hY.mono hX.size))).mono (Nat.le_trans hX.size hY.size)) hz (hT.next (hX.trans (hY.mono hX.size))) hO L hL0 y m d hd))
  rw [← hN] at H9
  have H10 := Lib.hid (fun X (hX : Below w.heap.size w X) => dayZ_walk off t (some ⟨b, o, none⟩) len cap R X ((hR.next hX).mono hX.size) (hT.next hX) y m d (L % 86400 / 3600) (L % 3600 / 60) (L % 60) _ (L / 86400) (fun Y hY => localOf_yes off t (some ⟨b, o, none⟩) len cap R Y ((hR.next (hX.trans (hY.mono hX.size))).mono (Nat.le_trans hX.size hY.size)) hz (hT.next (hX.trans (hY.mono hX.size))) hO L hL0 y m d hd) hd (by omega) (by omega))
  rw [show L % 86400 / 3600 * 60 + L % 3600 / 60 = L % 86400 / 60 by omega] at H10
  have H11 := Lib.hid (fun X => rof_is (L / 86400) y m d hd X)
  rw [show (N != 0) = true by simp [hN0]] at H9
  have hne0 : ¬ n = off := by omega
  have hne : (n == off) = false := by simpa using hne0
  have hne1 : (n != off) = true := by simpa using hne0
  have hne2 : decide (n = off) = false := decide_eq_false hne0
  have hb0 := (Below.refl _ w).alloc (Nat.le_refl _) (.cells #[.int .i64 off, .slice (some ⟨b, o, none⟩) len cap] 24)
  have HB0 := Lib.hid hb0
  have Hz0 := Lib.hid (heap_alloc_new w (.cells #[.int .i64 off, .slice (some ⟨b, o, none⟩) len cap] 24))
  clear hO hN hN0 hL0 hn hx hNb o1 o2 o3 o4 hnx hd
  obtain ⟨r, hr⟩ : ∃ r, r = R k := ⟨_, rfl⟩
  rw [← hr] at H3 HRL
  clear hV1 hV2 hr hrz hyy e1 e2 hi hy hk hrl
  obtain ⟨f, l, m1, w1, n1, t1, m2, w2, n2, t2, x⟩ := r
  clear hb0 hR hT hz hll ht0
  go_enter Tryd.func3, Tryd.ntmps3
  go_wp2_with fail
  refine (H1.out _ HB0.out).mono ?_
  rintro e X1 ⟨rfl, hB⟩
  have hb := HB0.out.trans (hB.mono HB0.out.size)
  have hz := (hB.block (w.heap.size) (Array.getElem?_eq_some_iff.1 Hz0.out).1).trans Hz0.out
  have HB1 := Lib.hid hb
  have Hz1 := Lib.hid hz
  have z1_0 : X1.cell? ⟨w.heap.size, 0, none⟩ = some (.int .i64 off) := cell_of_row X1 _ 0 _ _ _ hz
  have z1_1 : X1.cell? ⟨w.heap.size, 1, none⟩ = some (.slice (some ⟨b, o, none⟩) len cap) := cell_of_row X1 _ 1 _ _ _ hz
  clear hB hb hz HB0 Hz0
  go_wp2_with fail
  refine (H2.out _ HB1.out).mono ?_
  rintro e X2 ⟨rfl, hB⟩
  have hb := HB1.out.trans (hB.mono HB1.out.size)
  have hz := (hB.block (w.heap.size) (Array.getElem?_eq_some_iff.1 Hz1.out).1).trans Hz1.out
  have HB2 := Lib.hid hb
  have Hz2 := Lib.hid hz
  have z2_0 : X2.cell? ⟨w.heap.size, 0, none⟩ = some (.int .i64 off) := cell_of_row X2 _ 0 _ _ _ hz
  have z2_1 : X2.cell? ⟨w.heap.size, 1, none⟩ = some (.slice (some ⟨b, o, none⟩) len cap) := cell_of_row X2 _ 1 _ _ _ hz
  clear hB hb hz HB1 Hz1 z1_0 z1_1
  go_wp2_with fail
  refine (H3.out _ HB2.out).mono ?_
  rintro e X3 ⟨rfl, hB⟩
  have hb := HB2.out.trans (hB.mono HB2.out.size)
  have hz := (hB.block (w.heap.size) (Array.getElem?_eq_some_iff.1 Hz2.out).1).trans Hz2.out
  have hb2 := hb.alloc hb.size (.cells #[.int .i64 f, .int .i64 l, .int .i64 m1, .int .i64 w1, .int .i64 n1, .int .i64 t1, .int .i64 m2, .int .i64 w2, .int .i64 n2, .int .i64 t2, .int .i64 x] 31)
  have HB3 := Lib.hid hb2
  have ltz : w.heap.size < X3.heap.size := (Array.getElem?_eq_some_iff.1 hz).1
  have Hz3 := Lib.hid (heap_old hz (.cells #[.int .i64 f, .int .i64 l, .int .i64 m1, .int .i64 w1, .int .i64 n1, .int .i64 t1, .int .i64 m2, .int .i64 w2, .int .i64 n2, .int .i64 t2, .int .i64 x] 31))
  have Hr3 := Lib.hid (heap_alloc_new X3 (.cells #[.int .i64 f, .int .i64 l, .int .i64 m1, .int .i64 w1, .int .i64 n1, .int .i64 t1, .int .i64 m2, .int .i64 w2, .int .i64 n2, .int .i64 t2, .int .i64 x] 31))
  have z3_0 : X3.cell? ⟨w.heap.size, 0, none⟩ = some (.int .i64 off) := cell_of_row X3 _ 0 _ _ _ hz
  have z3_1 : X3.cell? ⟨w.heap.size, 1, none⟩ = some (.slice (some ⟨b, o, none⟩) len cap) := cell_of_row X3 _ 1 _ _ _ hz
  clear hB hb hz HB2 Hz2 hb2 z2_0 z2_1
  go_wp2_with fail
  refine (H4.out _ HB3.out).mono ?_
  rintro e X4 ⟨rfl, hB⟩
  have hb := HB3.out.trans (hB.mono HB3.out.size)
  have hz := (hB.block (w.heap.size) (Array.getElem?_eq_some_iff.1 Hz3.out).1).trans Hz3.out
  have hr := (hB.block (X3.heap.size) (Array.getElem?_eq_some_iff.1 Hr3.out).1).trans Hr3.out
  have HB4 := Lib.hid hb
  have Hz4 := Lib.hid hz
  have Hr4 := Lib.hid hr
  have z4_0 : X4.cell? ⟨w.heap.size, 0, none⟩ = some (.int .i64 off) := cell_of_row X4 _ 0 _ _ _ hz
  have z4_1 : X4.cell? ⟨w.heap.size, 1, none⟩ = some (.slice (some ⟨b, o, none⟩) len cap) := cell_of_row X4 _ 1 _ _ _ hz
  clear hB hb hz hr HB3 Hz3 Hr3 z3_0 z3_1
  go_wp2_with fail
  refine (H5.out _ HB4.out).mono ?_
  rintro e X5 ⟨rfl, hB⟩
  have hb := HB4.out.trans (hB.mono HB4.out.size)
  have hz := (hB.block (w.heap.size) (Array.getElem?_eq_some_iff.1 Hz4.out).1).trans Hz4.out
  have hr := (hB.block (X3.heap.size) (Array.getElem?_eq_some_iff.1 Hr4.out).1).trans Hr4.out
  have HB5 := Lib.hid hb
  have Hz5 := Lib.hid hz
  have Hr5 := Lib.hid hr
  have z5_0 : X5.cell? ⟨w.heap.size, 0, none⟩ = some (.int .i64 off) := cell_of_row X5 _ 0 _ _ _ hz
  have z5_1 : X5.cell? ⟨w.heap.size, 1, none⟩ = some (.slice (some ⟨b, o, none⟩) len cap) := cell_of_row X5 _ 1 _ _ _ hz
  clear hB hb hz hr HB4 Hz4 Hr4 z4_0 z4_1
  go_wp2_with fail
  refine (H6.out _ HB5.out).mono ?_
  rintro e X6 ⟨rfl, hB⟩
  have hb := HB5.out.trans (hB.mono HB5.out.size)
  have hz := (hB.block (w.heap.size) (Array.getElem?_eq_some_iff.1 Hz5.out).1).trans Hz5.out
  have hr := (hB.block (X3.heap.size) (Array.getElem?_eq_some_iff.1 Hr5.out).1).trans Hr5.out
  have HB6 := Lib.hid hb
  have Hz6 := Lib.hid hz
  have Hr6 := Lib.hid hr
  have z6_0 : X6.cell? ⟨w.heap.size, 0, none⟩ = some (.int .i64 off) := cell_of_row X6 _ 0 _ _ _ hz
  have z6_1 : X6.cell? ⟨w.heap.size, 1, none⟩ = some (.slice (some ⟨b, o, none⟩) len cap) := cell_of_row X6 _ 1 _ _ _ hz
  have r6_0 : X6.cell? ⟨X3.heap.size, 0, none⟩ = some (.int .i64 f) := cell_of_row X6 _ 0 _ _ _ hr
  have r6_1 : X6.cell? ⟨X3.heap.size, 1, none⟩ = some (.int .i64 l) := cell_of_row X6 _ 1 _ _ _ hr
  have r6_2 : X6.cell? ⟨X3.heap.size, 2, none⟩ = some (.int .i64 m1) := cell_of_row X6 _ 2 _ _ _ hr
  have r6_3 : X6.cell? ⟨X3.heap.size, 3, none⟩ = some (.int .i64 w1) := cell_of_row X6 _ 3 _ _ _ hr
  have r6_4 : X6.cell? ⟨X3.heap.size, 4, none⟩ = some (.int .i64 n1) := cell_of_row X6 _ 4 _ _ _ hr
  have r6_5 : X6.cell? ⟨X3.heap.size, 5, none⟩ = some (.int .i64 t1) := cell_of_row X6 _ 5 _ _ _ hr
  have r6_6 : X6.cell? ⟨X3.heap.size, 6, none⟩ = some (.int .i64 m2) := cell_of_row X6 _ 6 _ _ _ hr
  have r6_7 : X6.cell? ⟨X3.heap.size, 7, none⟩ = some (.int .i64 w2) := cell_of_row X6 _ 7 _ _ _ hr
  have r6_8 : X6.cell? ⟨X3.heap.size, 8, none⟩ = some (.int .i64 n2) := cell_of_row X6 _ 8 _ _ _ hr
  have r6_9 : X6.cell? ⟨X3.heap.size, 9, none⟩ = some (.int .i64 t2) := cell_of_row X6 _ 9 _ _ _ hr
  have r6_10 : X6.cell? ⟨X3.heap.size, 10, none⟩ = some (.int .i64 x) := cell_of_row X6 _ 10 _ _ _ hr
  clear hB hb hz hr HB5 Hz5 Hr5 z5_0 z5_1
  have hrl := HRL.out.below hb HB6.out
  obtain ⟨q0, q1, q2, q3, q4, q5, q6, q7, q8, q9, q10⟩ := hrl
  simp only [] at q0 q1 q2 q3 q4 q5 q6 q7 q8 q9 q10
  go_wp2_with fail
  go_quiet (fail)
  clear q0 q1 q2 q3 q4 q5 q6 q7 q8 q9 q10 r6_0 r6_1 r6_2 r6_3 r6_4 r6_5 r6_6 r6_7 r6_8 r6_9 r6_10
  have HBD := Lib.hid (fun q => below_drewN HB6.out q)
  clear HB6
  have HB6 := HBD
  clear HBD
  skip
  go_wp2_with fail
  refine (H7.out _ (HB6.out _)).mono ?_
  rintro e X7 ⟨rfl, hB⟩
  have hb := (HB6.out _).trans (hB.mono (HB6.out 0).size)
  have hz := (hB.block w.heap.size (Array.getElem?_eq_some_iff.1 Hz6.out).1).trans Hz6.out
  have HB7 := Lib.hid hb
  have Hz7 := Lib.hid hz
  have z7_0 : X7.cell? ⟨w.heap.size, 0, none⟩ = some (.int .i64 off) := cell_of_row X7 _ 0 _ _ _ hz
  have z7_1 : X7.cell? ⟨w.heap.size, 1, none⟩ = some (.slice (some ⟨b, o, none⟩) len cap) := cell_of_row X7 _ 1 _ _ _ hz
  clear hB hb hz HB6 Hz6 z6_0 z6_1
  go_wp2_with fail
  refine (H8.out _ HB7.out).mono ?_
  rintro e X8 ⟨rfl, hB⟩
  have hb := HB7.out.trans (hB.mono HB7.out.size)
  have hz := (hB.block (w.heap.size) (Array.getElem?_eq_some_iff.1 Hz7.out).1).trans Hz7.out
  have HB8 := Lib.hid hb
  have Hz8 := Lib.hid hz
  have z8_0 : X8.cell? ⟨w.heap.size, 0, none⟩ = some (.int .i64 off) := cell_of_row X8 _ 0 _ _ _ hz
  have z8_1 : X8.cell? ⟨w.heap.size, 1, none⟩ = some (.slice (some ⟨b, o, none⟩) len cap) := cell_of_row X8 _ 1 _ _ _ hz
  clear hB hb hz HB7 Hz7 z7_0 z7_1
  go_wp2_with fail
  refine (H9.out _ HB8.out).mono ?_
  rintro e X9 ⟨rfl, hB⟩
  have hb := HB8.out.trans (hB.mono HB8.out.size)
  have hz := (hB.block (w.heap.size) (Array.getElem?_eq_some_iff.1 Hz8.out).1).trans Hz8.out
  have hb2 := hb.alloc hb.size (.cells #[.int .i64 y, .int .i64 m, .int .i64 d, .int .i64 (L % 86400 / 3600), .int .i64 (L % 3600 / 60), .int .i64 (L % 60)] 44)
  have HB9 := Lib.hid hb2
  have ltz : w.heap.size < X9.heap.size := (Array.getElem?_eq_some_iff.1 hz).1
  have Hz9 := Lib.hid (heap_old hz (.cells #[.int .i64 y, .int .i64 m, .int .i64 d, .int .i64 (L % 86400 / 3600), .int .i64 (L % 3600 / 60), .int .i64 (L % 60)] 44))
  have Hm9 := Lib.hid (heap_alloc_new X9 (.cells #[.int .i64 y, .int .i64 m, .int .i64 d, .int .i64 (L % 86400 / 3600), .int .i64 (L % 3600 / 60), .int .i64 (L % 60)] 44))
  have z9_0 : X9.cell? ⟨w.heap.size, 0, none⟩ = some (.int .i64 off) := cell_of_row X9 _ 0 _ _ _ hz
  have z9_1 : X9.cell? ⟨w.heap.size, 1, none⟩ = some (.slice (some ⟨b, o, none⟩) len cap) := cell_of_row X9 _ 1 _ _ _ hz
  clear hB hb hz HB8 Hz8 hb2 z8_0 z8_1
  go_wp2_with fail
  refine (H10.out _ HB9.out).mono ?_
  rintro e X10 ⟨rfl, hB⟩
  have hb := HB9.out.trans (hB.mono HB9.out.size)
  have hz := (hB.block (w.heap.size) (Array.getElem?_eq_some_iff.1 Hz9.out).1).trans Hz9.out
  have hm := (hB.block (X9.heap.size) (Array.getElem?_eq_some_iff.1 Hm9.out).1).trans Hm9.out
  have HB10 := Lib.hid hb
  have Hz10 := Lib.hid hz
  have Hm10 := Lib.hid hm
  have z10_0 : X10.cell? ⟨w.heap.size, 0, none⟩ = some (.int .i64 off) := cell_of_row X10 _ 0 _ _ _ hz
  have z10_1 : X10.cell? ⟨w.heap.size, 1, none⟩ = some (.slice (some ⟨b, o, none⟩) len cap) := cell_of_row X10 _ 1 _ _ _ hz
  have m10_0 : X10.cell? ⟨X9.heap.size, 0, none⟩ = some (.int .i64 y) := cell_of_row X10 _ 0 _ _ _ hm
  have m10_1 : X10.cell? ⟨X9.heap.size, 1, none⟩ = some (.int .i64 m) := cell_of_row X10 _ 1 _ _ _ hm
  have m10_2 : X10.cell? ⟨X9.heap.size, 2, none⟩ = some (.int .i64 d) := cell_of_row X10 _ 2 _ _ _ hm
  have m10_3 : X10.cell? ⟨X9.heap.size, 3, none⟩ = some (.int .i64 (L % 86400 / 3600)) := cell_of_row X10 _ 3 _ _ _ hm
  have m10_4 : X10.cell? ⟨X9.heap.size, 4, none⟩ = some (.int .i64 (L % 3600 / 60)) := cell_of_row X10 _ 4 _ _ _ hm
  have m10_5 : X10.cell? ⟨X9.heap.size, 5, none⟩ = some (.int .i64 (L % 60)) := cell_of_row X10 _ 5 _ _ _ hm
  clear hB hb hz hm HB9 Hz9 Hm9 z9_0 z9_1
  go_wp2_with (first | (go_at_call 19; refine (H11.out _).mono ?_; rintro e w' ⟨rfl, rfl⟩))
  go_ret
  exact ⟨rfl, HB10.out⟩
set_option maxRecDepth 100000 in
set_option maxHeartbeats 8000000 in
theorem offsets_rn (off yr t : Int) (a : Option Addr) (len cap : Nat) (R : Nat → Rl) (w : World) (hR : RulesAt w.heap.size w a len R) (hT : Tabs w) (ht0 : In64 t) (hz : ZoneIs off R len) (k : Nat) (hk : k < len) (hi : ruleI R len yr = k) (hy : (R k).of yr) (hO : ¬ OffIs off R len t) :
    Calls Tryd.prog 3 #[zoneV off a len cap, .int .i64 yr, .int .i64 t] w fun e w' => e = .returned (.bool true) ∧ Below w.heap.size w w' := by
  have hll : len ≤ 1000 := by have := hz.2.1; omega
  have hli : (len : Int) ≤ 100 := by have := hz.2.1; omega
  have hoff := hz.1
  have H1 := Lib.hid (fun X (hX : Below w.heap.size w X) => rmayZ_any off a len cap R X hll ((hR.next hX).mono hX.size))
  rw [decide_eq_true hz] at H1
  have H2 := Lib.hid (fun X (hX : Below w.heap.size w X) => checkZ_any off a len cap R X hll ((hR.next hX).mono hX.size))
  rw [zE_yes hz] at H2
  have H3 := Lib.hid (fun X (hX : Below w.heap.size w X) => ofZ_any off a len cap R yr X hll ((hR.next hX).mono hX.size))
  rw [show ofR off R len yr = ruleR R len yr by unfold ofR; rw [if_pos hz], show ofB off R len yr = ruleB R len yr by unfold ofB; rw [if_pos hz]] at H3
  have H5 := Lib.hid (fun X (hX : Below w.heap.size w X) => rrule_any off a len cap R yr X hll ((hR.next hX).mono hX.size))
  rw [hi] at H5
  obtain ⟨e1, e2⟩ := ruleR_some hi
  rw [e1, e2] at H3
  have hrz := hz.2.2 k hk
  have hyy := rl_year hrz hy
  have hv1 := at_bounds hyy hrz.2.2.1
  have hv2 := at_bounds hyy hrz.2.2.2
  rw [show atV yr (R k).m1 (R k).w1 (R k).n1 (R k).t1 = onOf (R k) yr from rfl] at hv1
  rw [show atV yr (R k).m2 (R k).w2 (R k).n2 (R k).t2 = offOf (R k) yr from rfl] at hv2
  have H4 := Lib.hid (fun X (hX : Below w.heap.size w X) => edgesZ_yes off a len cap R yr X ((hR.next hX).mono hX.size) hz (hT.next hX) k hk hi hy)
  have H6 := Lib.hid (fun X (hX : Below w.heap.size w X) => redges_yes off a len cap R yr X hll ((hR.next hX).mono hX.size) k hk hi hrz hy)
  obtain ⟨V1, hV1⟩ : ∃ v, v = onOf (R k) yr := ⟨_, rfl⟩
  obtain ⟨V2, hV2⟩ : ∃ v, v = offOf (R k) yr := ⟨_, rfl⟩
  rw [← hV1] at hv1 H4 H6
  rw [← hV2] at hv2 H4 H6
  have hw1 : IntKind.i64.wrap (V1 - off) = V1 - off := by simp only [IntKind.wrap_i64, wrap64]; omega
  have hw2 : IntKind.i64.wrap (V2 - off) = V2 - off := by simp only [IntKind.wrap_i64, wrap64]; omega
  obtain ⟨b, o, rfl, hb, hrl⟩ := hR k hk
  have HRL := Lib.hid hrl
  have hki : (k : Int) < len := by omega
  have hk0 : decide ((0 : Int) ≤ (k : Int)) = true := decide_eq_true (by omega)
  have H7 := Lib.hid (fun X (hX : Below w.heap.size w X) => offsetZ_walk off t (some ⟨b, o, none⟩) len cap R X ((hR.next hX).mono hX.size) 0 0 0 0 0 0 0 60 0 (fun Y hY => localOf_no off t (some ⟨b, o, none⟩) len cap R Y ht0 ((hR.next (hX.trans (hY.mono hX.size))).mono (Nat.le_trans hX.size hY.size)) hz (hT.next (hX.trans (hY.mono hX.size))) hO) (.inr (.inl ⟨rfl, rfl⟩)))
  have H8 := Lib.hid (fun X (hX : Below w.heap.size w X) => (roffset_any off t (some ⟨b, o, none⟩) len cap R X ((hR.next hX).mono hX.size) hz).elim (fun h => absurd h.1 hO) (fun h => h.2))
  have H9 := Lib.hid (fun X (hX : Below w.heap.size w X) => localZ_walk off t (some ⟨b, o, none⟩) len cap R X ((hR.next hX).mono hX.size) 0 0 0 0 0 0 0 60 (fun Y hY => localOf_no off t (some ⟨b, o, none⟩) len cap R Y ht0 ((hR.next (hX.trans (hY.mono hX.size))).mono (Nat.le_trans hX.size hY.size)) hz (hT.next (hX.trans (hY.mono hX.size))) hO))
  have H10 := Lib.hid (fun X (hX : Below w.heap.size w X) => dayZ_no off t (some ⟨b, o, none⟩) len cap R X ((hR.next hX).mono hX.size) 0 0 0 0 0 0 0 60 (fun Y hY => localOf_no off t (some ⟨b, o, none⟩) len cap R Y ht0 ((hR.next (hX.trans (hY.mono hX.size))).mono (Nat.le_trans hX.size hY.size)) hz (hT.next (hX.trans (hY.mono hX.size))) hO) (.inl rfl))
  rw [show ((0 : Int) != 0) = false from rfl] at H9
  have hb0 := (Below.refl _ w).alloc (Nat.le_refl _) (.cells #[.int .i64 off, .slice (some ⟨b, o, none⟩) len cap] 24)
  have HB0 := Lib.hid hb0
  have Hz0 := Lib.hid (heap_alloc_new w (.cells #[.int .i64 off, .slice (some ⟨b, o, none⟩) len cap] 24))
  clear hO
  obtain ⟨r, hr⟩ : ∃ r, r = R k := ⟨_, rfl⟩
  rw [← hr] at H3 HRL
  clear hV1 hV2 hr hrz hyy e1 e2 hi hy hk hrl
  obtain ⟨f, l, m1, w1, n1, t1, m2, w2, n2, t2, x⟩ := r
  clear hb0 hR hT hz hll ht0
  go_enter Tryd.func3, Tryd.ntmps3
  go_wp2_with fail
  refine (H1.out _ HB0.out).mono ?_
  rintro e X1 ⟨rfl, hB⟩
  have hb := HB0.out.trans (hB.mono HB0.out.size)
  have hz := (hB.block (w.heap.size) (Array.getElem?_eq_some_iff.1 Hz0.out).1).trans Hz0.out
  have HB1 := Lib.hid hb
  have Hz1 := Lib.hid hz
  have z1_0 : X1.cell? ⟨w.heap.size, 0, none⟩ = some (.int .i64 off) := cell_of_row X1 _ 0 _ _ _ hz
  have z1_1 : X1.cell? ⟨w.heap.size, 1, none⟩ = some (.slice (some ⟨b, o, none⟩) len cap) := cell_of_row X1 _ 1 _ _ _ hz
  clear hB hb hz HB0 Hz0
  go_wp2_with fail
  refine (H2.out _ HB1.out).mono ?_
  rintro e X2 ⟨rfl, hB⟩
  have hb := HB1.out.trans (hB.mono HB1.out.size)
  have hz := (hB.block (w.heap.size) (Array.getElem?_eq_some_iff.1 Hz1.out).1).trans Hz1.out
  have HB2 := Lib.hid hb
  have Hz2 := Lib.hid hz
  have z2_0 : X2.cell? ⟨w.heap.size, 0, none⟩ = some (.int .i64 off) := cell_of_row X2 _ 0 _ _ _ hz
  have z2_1 : X2.cell? ⟨w.heap.size, 1, none⟩ = some (.slice (some ⟨b, o, none⟩) len cap) := cell_of_row X2 _ 1 _ _ _ hz
  clear hB hb hz HB1 Hz1 z1_0 z1_1
  go_wp2_with fail
  refine (H3.out _ HB2.out).mono ?_
  rintro e X3 ⟨rfl, hB⟩
  have hb := HB2.out.trans (hB.mono HB2.out.size)
  have hz := (hB.block (w.heap.size) (Array.getElem?_eq_some_iff.1 Hz2.out).1).trans Hz2.out
  have hb2 := hb.alloc hb.size (.cells #[.int .i64 f, .int .i64 l, .int .i64 m1, .int .i64 w1, .int .i64 n1, .int .i64 t1, .int .i64 m2, .int .i64 w2, .int .i64 n2, .int .i64 t2, .int .i64 x] 31)
  have HB3 := Lib.hid hb2
  have ltz : w.heap.size < X3.heap.size := (Array.getElem?_eq_some_iff.1 hz).1
  have Hz3 := Lib.hid (heap_old hz (.cells #[.int .i64 f, .int .i64 l, .int .i64 m1, .int .i64 w1, .int .i64 n1, .int .i64 t1, .int .i64 m2, .int .i64 w2, .int .i64 n2, .int .i64 t2, .int .i64 x] 31))
  have Hr3 := Lib.hid (heap_alloc_new X3 (.cells #[.int .i64 f, .int .i64 l, .int .i64 m1, .int .i64 w1, .int .i64 n1, .int .i64 t1, .int .i64 m2, .int .i64 w2, .int .i64 n2, .int .i64 t2, .int .i64 x] 31))
  have z3_0 : X3.cell? ⟨w.heap.size, 0, none⟩ = some (.int .i64 off) := cell_of_row X3 _ 0 _ _ _ hz
  have z3_1 : X3.cell? ⟨w.heap.size, 1, none⟩ = some (.slice (some ⟨b, o, none⟩) len cap) := cell_of_row X3 _ 1 _ _ _ hz
  clear hB hb hz HB2 Hz2 hb2 z2_0 z2_1
  go_wp2_with fail
  refine (H4.out _ HB3.out).mono ?_
  rintro e X4 ⟨rfl, hB⟩
  have hb := HB3.out.trans (hB.mono HB3.out.size)
  have hz := (hB.block (w.heap.size) (Array.getElem?_eq_some_iff.1 Hz3.out).1).trans Hz3.out
  have hr := (hB.block (X3.heap.size) (Array.getElem?_eq_some_iff.1 Hr3.out).1).trans Hr3.out
  have HB4 := Lib.hid hb
  have Hz4 := Lib.hid hz
  have Hr4 := Lib.hid hr
  have z4_0 : X4.cell? ⟨w.heap.size, 0, none⟩ = some (.int .i64 off) := cell_of_row X4 _ 0 _ _ _ hz
  have z4_1 : X4.cell? ⟨w.heap.size, 1, none⟩ = some (.slice (some ⟨b, o, none⟩) len cap) := cell_of_row X4 _ 1 _ _ _ hz
  clear hB hb hz hr HB3 Hz3 Hr3 z3_0 z3_1
  go_wp2_with fail
  refine (H5.out _ HB4.out).mono ?_
  rintro e X5 ⟨rfl, hB⟩
  have hb := HB4.out.trans (hB.mono HB4.out.size)
  have hz := (hB.block (w.heap.size) (Array.getElem?_eq_some_iff.1 Hz4.out).1).trans Hz4.out
  have hr := (hB.block (X3.heap.size) (Array.getElem?_eq_some_iff.1 Hr4.out).1).trans Hr4.out
  have HB5 := Lib.hid hb
  have Hz5 := Lib.hid hz
  have Hr5 := Lib.hid hr
  have z5_0 : X5.cell? ⟨w.heap.size, 0, none⟩ = some (.int .i64 off) := cell_of_row X5 _ 0 _ _ _ hz
  have z5_1 : X5.cell? ⟨w.heap.size, 1, none⟩ = some (.slice (some ⟨b, o, none⟩) len cap) := cell_of_row X5 _ 1 _ _ _ hz
  clear hB hb hz hr HB4 Hz4 Hr4 z4_0 z4_1
  go_wp2_with fail
  refine (H6.out _ HB5.out).mono ?_
  rintro e X6 ⟨rfl, hB⟩
  have hb := HB5.out.trans (hB.mono HB5.out.size)
  have hz := (hB.block (w.heap.size) (Array.getElem?_eq_some_iff.1 Hz5.out).1).trans Hz5.out
  have hr := (hB.block (X3.heap.size) (Array.getElem?_eq_some_iff.1 Hr5.out).1).trans Hr5.out
  have HB6 := Lib.hid hb
  have Hz6 := Lib.hid hz
  have Hr6 := Lib.hid hr
  have z6_0 : X6.cell? ⟨w.heap.size, 0, none⟩ = some (.int .i64 off) := cell_of_row X6 _ 0 _ _ _ hz
  have z6_1 : X6.cell? ⟨w.heap.size, 1, none⟩ = some (.slice (some ⟨b, o, none⟩) len cap) := cell_of_row X6 _ 1 _ _ _ hz
  have r6_0 : X6.cell? ⟨X3.heap.size, 0, none⟩ = some (.int .i64 f) := cell_of_row X6 _ 0 _ _ _ hr
  have r6_1 : X6.cell? ⟨X3.heap.size, 1, none⟩ = some (.int .i64 l) := cell_of_row X6 _ 1 _ _ _ hr
  have r6_2 : X6.cell? ⟨X3.heap.size, 2, none⟩ = some (.int .i64 m1) := cell_of_row X6 _ 2 _ _ _ hr
  have r6_3 : X6.cell? ⟨X3.heap.size, 3, none⟩ = some (.int .i64 w1) := cell_of_row X6 _ 3 _ _ _ hr
  have r6_4 : X6.cell? ⟨X3.heap.size, 4, none⟩ = some (.int .i64 n1) := cell_of_row X6 _ 4 _ _ _ hr
  have r6_5 : X6.cell? ⟨X3.heap.size, 5, none⟩ = some (.int .i64 t1) := cell_of_row X6 _ 5 _ _ _ hr
  have r6_6 : X6.cell? ⟨X3.heap.size, 6, none⟩ = some (.int .i64 m2) := cell_of_row X6 _ 6 _ _ _ hr
  have r6_7 : X6.cell? ⟨X3.heap.size, 7, none⟩ = some (.int .i64 w2) := cell_of_row X6 _ 7 _ _ _ hr
  have r6_8 : X6.cell? ⟨X3.heap.size, 8, none⟩ = some (.int .i64 n2) := cell_of_row X6 _ 8 _ _ _ hr
  have r6_9 : X6.cell? ⟨X3.heap.size, 9, none⟩ = some (.int .i64 t2) := cell_of_row X6 _ 9 _ _ _ hr
  have r6_10 : X6.cell? ⟨X3.heap.size, 10, none⟩ = some (.int .i64 x) := cell_of_row X6 _ 10 _ _ _ hr
  clear hB hb hz hr HB5 Hz5 Hr5 z5_0 z5_1
  have hrl := HRL.out.below hb HB6.out
  obtain ⟨q0, q1, q2, q3, q4, q5, q6, q7, q8, q9, q10⟩ := hrl
  simp only [] at q0 q1 q2 q3 q4 q5 q6 q7 q8 q9 q10
  go_wp2_with fail
  go_quiet (fail)
  clear q0 q1 q2 q3 q4 q5 q6 q7 q8 q9 q10 r6_0 r6_1 r6_2 r6_3 r6_4 r6_5 r6_6 r6_7 r6_8 r6_9 r6_10
  have HBD := Lib.hid (fun q => below_drewN HB6.out q)
  clear HB6
  have HB6 := HBD
  clear HBD
  skip
  go_wp2_with fail
  refine (H7.out _ (HB6.out _)).mono ?_
  rintro e X7 ⟨rfl, hB⟩
  have hb := (HB6.out _).trans (hB.mono (HB6.out 0).size)
  have hz := (hB.block w.heap.size (Array.getElem?_eq_some_iff.1 Hz6.out).1).trans Hz6.out
  have HB7 := Lib.hid hb
  have Hz7 := Lib.hid hz
  have z7_0 : X7.cell? ⟨w.heap.size, 0, none⟩ = some (.int .i64 off) := cell_of_row X7 _ 0 _ _ _ hz
  have z7_1 : X7.cell? ⟨w.heap.size, 1, none⟩ = some (.slice (some ⟨b, o, none⟩) len cap) := cell_of_row X7 _ 1 _ _ _ hz
  clear hB hb hz HB6 Hz6 z6_0 z6_1
  go_wp2_with fail
  refine (H8.out _ HB7.out).mono ?_
  rintro e X8 ⟨rfl, hB⟩
  have hb := HB7.out.trans (hB.mono HB7.out.size)
  have hz := (hB.block (w.heap.size) (Array.getElem?_eq_some_iff.1 Hz7.out).1).trans Hz7.out
  have HB8 := Lib.hid hb
  have Hz8 := Lib.hid hz
  have z8_0 : X8.cell? ⟨w.heap.size, 0, none⟩ = some (.int .i64 off) := cell_of_row X8 _ 0 _ _ _ hz
  have z8_1 : X8.cell? ⟨w.heap.size, 1, none⟩ = some (.slice (some ⟨b, o, none⟩) len cap) := cell_of_row X8 _ 1 _ _ _ hz
  clear hB hb hz HB7 Hz7 z7_0 z7_1
  go_wp2_with fail
  refine (H9.out _ HB8.out).mono ?_
  rintro e X9 ⟨rfl, hB⟩
  have hb := HB8.out.trans (hB.mono HB8.out.size)
  have hz := (hB.block (w.heap.size) (Array.getElem?_eq_some_iff.1 Hz8.out).1).trans Hz8.out
  have hb2 := hb.alloc hb.size (.cells #[.int .i64 0, .int .i64 0, .int .i64 0, .int .i64 0, .int .i64 0, .int .i64 0] 44)
  have HB9 := Lib.hid hb2
  have ltz : w.heap.size < X9.heap.size := (Array.getElem?_eq_some_iff.1 hz).1
  have Hz9 := Lib.hid (heap_old hz (.cells #[.int .i64 0, .int .i64 0, .int .i64 0, .int .i64 0, .int .i64 0, .int .i64 0] 44))
  have Hm9 := Lib.hid (heap_alloc_new X9 (.cells #[.int .i64 0, .int .i64 0, .int .i64 0, .int .i64 0, .int .i64 0, .int .i64 0] 44))
  have z9_0 : X9.cell? ⟨w.heap.size, 0, none⟩ = some (.int .i64 off) := cell_of_row X9 _ 0 _ _ _ hz
  have z9_1 : X9.cell? ⟨w.heap.size, 1, none⟩ = some (.slice (some ⟨b, o, none⟩) len cap) := cell_of_row X9 _ 1 _ _ _ hz
  clear hB hb hz HB8 Hz8 hb2 z8_0 z8_1
  go_wp2_with fail
  refine (H10.out _ HB9.out).mono ?_
  rintro e X10 ⟨rfl, hB⟩
  have hb := HB9.out.trans (hB.mono HB9.out.size)
  have hz := (hB.block (w.heap.size) (Array.getElem?_eq_some_iff.1 Hz9.out).1).trans Hz9.out
  have hm := (hB.block (X9.heap.size) (Array.getElem?_eq_some_iff.1 Hm9.out).1).trans Hm9.out
  have HB10 := Lib.hid hb
  have Hz10 := Lib.hid hz
  have Hm10 := Lib.hid hm
  have z10_0 : X10.cell? ⟨w.heap.size, 0, none⟩ = some (.int .i64 off) := cell_of_row X10 _ 0 _ _ _ hz
  have z10_1 : X10.cell? ⟨w.heap.size, 1, none⟩ = some (.slice (some ⟨b, o, none⟩) len cap) := cell_of_row X10 _ 1 _ _ _ hz
  have m10_0 : X10.cell? ⟨X9.heap.size, 0, none⟩ = some (.int .i64 0) := cell_of_row X10 _ 0 _ _ _ hm
  have m10_1 : X10.cell? ⟨X9.heap.size, 1, none⟩ = some (.int .i64 0) := cell_of_row X10 _ 1 _ _ _ hm
  have m10_2 : X10.cell? ⟨X9.heap.size, 2, none⟩ = some (.int .i64 0) := cell_of_row X10 _ 2 _ _ _ hm
  have m10_3 : X10.cell? ⟨X9.heap.size, 3, none⟩ = some (.int .i64 0) := cell_of_row X10 _ 3 _ _ _ hm
  have m10_4 : X10.cell? ⟨X9.heap.size, 4, none⟩ = some (.int .i64 0) := cell_of_row X10 _ 4 _ _ _ hm
  have m10_5 : X10.cell? ⟨X9.heap.size, 5, none⟩ = some (.int .i64 0) := cell_of_row X10 _ 5 _ _ _ hm
  clear hB hb hz hm HB9 Hz9 Hm9 z9_0 z9_1
  go_wp2
  go_ret
  exact ⟨rfl, HB10.out⟩
end Go.Proofs.YtobnlcmamnoefaaDoor
