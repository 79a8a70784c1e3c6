/- alive. -/
import Derived.Test.YtobnlcmamnoefaaDoorYAlive
set_option linter.unusedVariables false
set_option linter.unusedSimpArgs false
namespace Go.Proofs.YtobnlcmamnoefaaDoor
open Go.RowKit Go.Shelf
set_option maxRecDepth 100000 in
set_option maxHeartbeats 2000000 in
theorem alive_any (w : World) (hT : Tabs w) :
    Calls Tryd.prog 27 #[] w fun e w' => e = .returned (.bool true) ∧ Below w.heap.size w w' := by
  have H1 := Lib.hid (fun X => europe_any X)
  have m1 : MomIs 2026 3 29 0 59 59 := by decide
  have m2 : MomIs 2026 3 29 1 0 0 := by decide
  have H2 := Lib.hid (fun X (hX : Below w.heap.size w X) => when_any 2026 3 29 0 59 59 m1 X (hT.next hX))
  have H3 := Lib.hid (fun X (hX : Below w.heap.size w X) => when_any 2026 3 29 1 0 0 m2 X (hT.next hX))
  have H4 := Lib.hid (fun (b : Nat) X (hX : Below w.heap.size w X) h => alive_local1 b X (hT.next hX) h)
  have H5 := Lib.hid (fun (b : Nat) X (hX : Below w.heap.size w X) h => alive_local2 b X (hT.next hX) h)
  obtain ⟨T1, hT1⟩ : ∃ T, T = secOf 2026 3 29 0 59 59 := ⟨_, rfl⟩
  obtain ⟨T2, hT2⟩ : ∃ T, T = secOf 2026 3 29 1 0 0 := ⟨_, rfl⟩
  rw [← hT1] at H2 H4
  rw [← hT2] at H3 H5
  clear m1 m2 hT hT1 hT2
  go_enter Tryd.func27, Tryd.ntmps27
  go_wp2_with fail
  refine (H1.out _).mono ?_
  rintro e X1 ⟨rfl, hr, hB⟩
  have HB1 := Lib.hid hB
  have HR1 := Lib.hid hr
  clear hr hB
  go_wp2_with fail
  refine (H2.out _ HB1.out).mono ?_
  rintro e X2 ⟨rfl, hB⟩
  have HB2 := Lib.hid (HB1.out.trans (hB.mono HB1.out.size))
  have HR2 := Lib.hid ((hB.block _ (Array.getElem?_eq_some_iff.1 HR1.out).1).trans HR1.out)
  clear hB HB1 HR1
  go_wp2_with fail
  refine (H4.out _ _ HB2.out HR2.out).mono ?_
  rintro e X3 ⟨rfl, hB⟩
  have hb := HB2.out.trans (hB.mono HB2.out.size)
  have HB3 := Lib.hid (hb.alloc hb.size (.cells #[.int .i64 2026, .int .i64 3, .int .i64 29, .int .i64 1, .int .i64 59, .int .i64 59] 44))
  have HM3 := Lib.hid (heap_alloc_new X3 (.cells #[.int .i64 2026, .int .i64 3, .int .i64 29, .int .i64 1, .int .i64 59, .int .i64 59] 44))
  clear hB hb HB2 HR2
  go_wp2_with fail
  refine (H1.out _).mono ?_
  rintro e X4 ⟨rfl, hr, hB⟩
  rw [World.size_alloc] at hr
  have HB4 := Lib.hid (HB3.out.trans (hB.mono HB3.out.size))
  have HM4 := Lib.hid ((hB.block _ (Array.getElem?_eq_some_iff.1 HM3.out).1).trans HM3.out)
  have HR4 := Lib.hid hr
  clear hr hB HB3 HM3
  go_wp2_with fail
  refine (H3.out _ HB4.out).mono ?_
  rintro e X5 ⟨rfl, hB⟩
  have HB5 := Lib.hid (HB4.out.trans (hB.mono HB4.out.size))
  have HR5 := Lib.hid ((hB.block _ (Array.getElem?_eq_some_iff.1 HR4.out).1).trans HR4.out)
  have HM5 := Lib.hid ((hB.block _ (Array.getElem?_eq_some_iff.1 HM4.out).1).trans HM4.out)
  clear hB HB4 HR4 HM4
  go_wp2_with fail
  refine (H5.out _ _ HB5.out HR5.out).mono ?_
  rintro e X6 ⟨rfl, hB⟩
  have hb := HB5.out.trans (hB.mono HB5.out.size)
  have hm := (hB.block _ (Array.getElem?_eq_some_iff.1 HM5.out).1).trans HM5.out
  have hlt : X3.heap.size < X6.heap.size := (Array.getElem?_eq_some_iff.1 hm).1
  have c1 : X6.cell? ⟨X3.heap.size, 3, none⟩ = some (.int .i64 1) := cell_of_row X6 _ 3 _ _ _ hm
  have c3 : X6.cell? ⟨X3.heap.size, 5, none⟩ = some (.int .i64 59) := cell_of_row X6 _ 5 _ _ _ hm
  have HB6 := Lib.hid (hb.alloc hb.size (.cells #[.int .i64 2026, .int .i64 3, .int .i64 29, .int .i64 3, .int .i64 0, .int .i64 0] 44))
  clear hB hb hm HB5 HR5 HM5
  go_wp2
  go_ret
  exact ⟨rfl, HB6.out⟩
end Go.Proofs.YtobnlcmamnoefaaDoor
