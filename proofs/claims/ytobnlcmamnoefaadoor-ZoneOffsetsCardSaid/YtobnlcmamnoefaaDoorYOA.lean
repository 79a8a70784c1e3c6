/- The walk of the statement ZoneOffsets. -/
import Derived.Test.YtobnlcmamnoefaaDoorYOffs
import Derived.Test.YtobnlcmamnoefaaDoorZInst
import Derived.Test.YtobnlcmamnoefaaDoorKRef2
import Derived.BigQuiet
import Derived.Deep.QuietTactic
set_option linter.unusedVariables false
set_option linter.unusedSimpArgs false
namespace Go.Proofs.YtobnlcmamnoefaaDoor
open Go.RowKit Go.Shelf
set_option maxRecDepth 100000 in
set_option maxHeartbeats 8000000 in
theorem offsets_many (off yr t : Int) (a : Option Addr) (len cap : Nat) (R : Nat → Rl) (w : World) (hR : RulesAt w.heap.size w a len R) (hT : Tabs w) (hy0 : In64 yr) (ht0 : In64 t) (hl : 100 < len) :
    Calls Tryd.prog 3 #[zoneV off a len cap, .int .i64 yr, .int .i64 t] w fun e w' => e = .returned (.bool true) ∧ Below w.heap.size w w' := by
  have hli : (100 : Int) < len := by omega
  have hb0 := (Below.refl _ w).alloc (Nat.le_refl _) (.cells #[.int .i64 off, .slice a len cap] 24)
  have HB0 := Lib.hid hb0
  have Hz0 := Lib.hid (heap_alloc_new w (.cells #[.int .i64 off, .slice a len cap] 24))
  go_enter Tryd.func3, Tryd.ntmps3
  go_wp2
  go_ret
  exact ⟨rfl, HB0.out⟩
set_option maxRecDepth 100000 in
set_option maxHeartbeats 8000000 in
theorem offsets_bad (off yr t : Int) (a : Option Addr) (len cap : Nat) (R : Nat → Rl) (w : World) (hR : RulesAt w.heap.size w a len R) (hT : Tabs w) (hy0 : In64 yr) (ht0 : In64 t) (hl : len ≤ 100) (hz : ¬ ZoneIs off R len) :
    Calls Tryd.prog 3 #[zoneV off a len cap, .int .i64 yr, .int .i64 t] w fun e w' => e = .returned (.bool true) ∧ Below w.heap.size w w' := by
  have hll : len ≤ 1000 := by omega
  have hli : (len : Int) ≤ 100 := by omega
  have H1 := Lib.hid (fun X (hX : Below w.heap.size w X) => rmayZ_any off a len cap R X hll ((hR.next hX).mono hX.size))
  rw [decide_eq_false hz] at H1
  have H2 := Lib.hid (fun X (hX : Below w.heap.size w X) => checkZ_any off a len cap R X hll ((hR.next hX).mono hX.size))
  rw [zE_no hz] at H2
  have H3 := Lib.hid (fun X (hX : Below w.heap.size w X) => ofZ_any off a len cap R yr X hll ((hR.next hX).mono hX.size))
  rw [show ofR off R len yr = noRl by unfold ofR; rw [if_neg hz], show ofB off R len yr = false by unfold ofB; rw [if_neg hz]] at H3
  have H4 := Lib.hid (fun X (hX : Below w.heap.size w X) => edgesZ_no off a len cap R yr X hll ((hR.next hX).mono hX.size) (.inl hz))
  have H5 := Lib.hid (fun X (hX : Below w.heap.size w X) => offsetZ_walk off t a len cap R X ((hR.next hX).mono hX.size) 0 0 0 0 0 0 0 70 0 (fun Y hY => localOf_bad off t a len cap R Y hll ((hR.next (hX.trans (hY.mono hX.size))).mono (Nat.le_trans hX.size hY.size)) hz) (.inr (.inr ⟨rfl, rfl⟩)))
  have hb0 := (Below.refl _ w).alloc (Nat.le_refl _) (.cells #[.int .i64 off, .slice a len cap] 24)
  have HB0 := Lib.hid hb0
  have Hz0 := Lib.hid (heap_alloc_new w (.cells #[.int .i64 off, .slice a len cap] 24))
  clear hb0 hR hT hz hll hl hy0 ht0
  go_enter Tryd.func3, Tryd.ntmps3
  go_wp2_with fail
  refine (H1.out _ HB0.out).mono ?_
  rintro e X1 ⟨rfl, hB⟩
  have hb := HB0.out.trans (hB.mono HB0.out.size)
  have hz := (hB.block (w.heap.size) (Array.getElem?_eq_some_iff.1 Hz0.out).1).trans Hz0.out
  have HB1 := Lib.hid hb
  have Hz1 := Lib.hid hz
  have z1_0 : X1.cell? ⟨w.heap.size, 0, none⟩ = some (.int .i64 off) := cell_of_row X1 _ 0 _ _ _ hz
  have z1_1 : X1.cell? ⟨w.heap.size, 1, none⟩ = some (.slice a len cap) := cell_of_row X1 _ 1 _ _ _ hz
  clear hB hb hz HB0 Hz0
  go_wp2_with fail
  refine (H2.out _ HB1.out).mono ?_
  rintro e X2 ⟨rfl, hB⟩
  have hb := HB1.out.trans (hB.mono HB1.out.size)
  have hz := (hB.block (w.heap.size) (Array.getElem?_eq_some_iff.1 Hz1.out).1).trans Hz1.out
  have HB2 := Lib.hid hb
  have Hz2 := Lib.hid hz
  have z2_0 : X2.cell? ⟨w.heap.size, 0, none⟩ = some (.int .i64 off) := cell_of_row X2 _ 0 _ _ _ hz
  have z2_1 : X2.cell? ⟨w.heap.size, 1, none⟩ = some (.slice a len cap) := cell_of_row X2 _ 1 _ _ _ hz
  clear hB hb hz HB1 Hz1 z1_0 z1_1
  go_wp2_with fail
  refine (H3.out _ HB2.out).mono ?_
  rintro e X3 ⟨rfl, hB⟩
  have hb := HB2.out.trans (hB.mono HB2.out.size)
  have hz := (hB.block (w.heap.size) (Array.getElem?_eq_some_iff.1 Hz2.out).1).trans Hz2.out
  have hb2 := hb.alloc hb.size (.cells #[.int .i64 0, .int .i64 0, .int .i64 0, .int .i64 0, .int .i64 0, .int .i64 0, .int .i64 0, .int .i64 0, .int .i64 0, .int .i64 0, .int .i64 0] 31)
  have HB3 := Lib.hid hb2
  have ltz : w.heap.size < X3.heap.size := (Array.getElem?_eq_some_iff.1 hz).1
  have Hz3 := Lib.hid (heap_old hz (.cells #[.int .i64 0, .int .i64 0, .int .i64 0, .int .i64 0, .int .i64 0, .int .i64 0, .int .i64 0, .int .i64 0, .int .i64 0, .int .i64 0, .int .i64 0] 31))
  have Hr3 := Lib.hid (heap_alloc_new X3 (.cells #[.int .i64 0, .int .i64 0, .int .i64 0, .int .i64 0, .int .i64 0, .int .i64 0, .int .i64 0, .int .i64 0, .int .i64 0, .int .i64 0, .int .i64 0] 31))
  have z3_0 : X3.cell? ⟨w.heap.size, 0, none⟩ = some (.int .i64 off) := cell_of_row X3 _ 0 _ _ _ hz
  have z3_1 : X3.cell? ⟨w.heap.size, 1, none⟩ = some (.slice a len cap) := cell_of_row X3 _ 1 _ _ _ hz
  clear hB hb hz HB2 Hz2 hb2 z2_0 z2_1
  go_wp2_with fail
  refine (H4.out _ HB3.out).mono ?_
  rintro e X4 ⟨rfl, hB⟩
  have hb := HB3.out.trans (hB.mono HB3.out.size)
  have hz := (hB.block (w.heap.size) (Array.getElem?_eq_some_iff.1 Hz3.out).1).trans Hz3.out
  have HB4 := Lib.hid hb
  have Hz4 := Lib.hid hz
  have z4_0 : X4.cell? ⟨w.heap.size, 0, none⟩ = some (.int .i64 off) := cell_of_row X4 _ 0 _ _ _ hz
  have z4_1 : X4.cell? ⟨w.heap.size, 1, none⟩ = some (.slice a len cap) := cell_of_row X4 _ 1 _ _ _ hz
  clear hB hb hz HB3 Hz3 z3_0 z3_1
  go_wp2_with fail
  refine (H5.out _ HB4.out).mono ?_
  rintro e X5 ⟨rfl, hB⟩
  have hb := HB4.out.trans (hB.mono HB4.out.size)
  have hz := (hB.block (w.heap.size) (Array.getElem?_eq_some_iff.1 Hz4.out).1).trans Hz4.out
  have HB5 := Lib.hid hb
  have Hz5 := Lib.hid hz
  have z5_0 : X5.cell? ⟨w.heap.size, 0, none⟩ = some (.int .i64 off) := cell_of_row X5 _ 0 _ _ _ hz
  have z5_1 : X5.cell? ⟨w.heap.size, 1, none⟩ = some (.slice a len cap) := cell_of_row X5 _ 1 _ _ _ hz
  clear hB hb hz HB4 Hz4 z4_0 z4_1
  go_wp2
  go_ret
  exact ⟨rfl, HB5.out⟩
end Go.Proofs.YtobnlcmamnoefaaDoor
