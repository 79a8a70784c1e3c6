/- The statement RatesMore, walked: part A. -/
import Derived.Test.YthlpigffjbhmoaaDoorEFew
import Derived.Test.YthlpigffjbhmoaaDoorEMath
import Derived.Test.YthlpigffjbhmoaaDoorVHoldM
import Derived.Test.YthlpigffjbhmoaaDoorVRef1
set_option linter.unusedVariables false
set_option linter.unusedSimpArgs false
namespace Go.Proofs.YthlpigffjbhmoaaDoor
open Go.RowKit Go.Shelf
set_option maxRecDepth 100000 in
set_option maxHeartbeats 8000000 in
theorem more_long (a : Option Addr) (n cap : Nat) (l : List Ve) (hn : l.length = n) (f : Int) (pa : Option Addr) (m pc : Nat) (ps : List Int) (hm : ps.length = m) (t band : Int) (w : World) (hA : VesAt w.heap.size w a l) (hP : PrAt w.heap.size w pa ps) (hnx : n ≤ cap ∧ cap ≤ maxLen) (hmx : m ≤ pc ∧ pc ≤ maxLen) (hPow : Pow w) (hm40 : 40 < m) :
    Calls Tryd.prog 5 #[.slice a n cap, verV f pa m pc, .int .i64 t, .int .i64 band] w fun e w' => e = .returned (.bool true) ∧ Below w.heap.size w w' := by
  have HB0 := Lib.hid ((Below.refl _ w).alloc (Nat.le_refl _) (.cells #[.int .i64 f, .slice pa m pc] 42))
  have HZ0 := Lib.hid (heap_alloc_new w (.cells #[.int .i64 f, .slice pa m pc] 42))
  have HL0 : Hid ((w.alloc (.cells #[.int .i64 f, .slice pa m pc] 42)).heap.size = w.heap.size + 1) := Lib.hid (World.size_alloc _ _)
  have HAL := Lib.hid (fun (W : World) (hB : Below w.heap.size w W) => alive_any W (hPow.next hB (Nat.le_refl _)))
  have HGR := Lib.hid (fun (W : World) (hB : Below w.heap.size w W) => rGreat_any a n cap l hn W (hA.grow hB) hnx)
  have hm4 : (40 : Int) < m := by omega
  clear hA hP hn hm hPow hm40
  go_enter Tryd.func5, Tryd.ntmps5
  go_wp2_with fail
  refine (HAL.out _ HB0.out).mono ?_
  rintro e w1 ⟨rfl, hB⟩
  have HZw1 := Lib.hid ((hB.block w.heap.size (by have := HL0.out; omega)).trans HZ0.out)
  have HLw1 := Lib.hid (show w.heap.size + 1 ≤ w1.heap.size by have := hB.size; have := HL0.out; omega)
  clear HAL
  have HBw1 := Lib.hid (HB0.out.trans (hB.mono HB0.out.size))
  clear hB HZ0 HL0 HB0
  go_wp2_with fail
  refine (HGR.out _ HBw1.out).mono ?_
  rintro e w2 ⟨hg | hg, hB⟩
  all_goals
    subst hg
    have HZw2 := Lib.hid ((hB.block w.heap.size (by have := HLw1.out; omega)).trans HZw1.out)
    have HLw2 := Lib.hid (show w.heap.size + 1 ≤ w2.heap.size by have := hB.size; have := HLw1.out; omega)
    have HBw2 := Lib.hid (HBw1.out.trans (hB.mono HBw1.out.size))
    clear hB HZw1 HLw1 HBw1 HGR
  rotate_left
  · go_wp2
    go_ret
    exact ⟨rfl, HBw2.out⟩
  have z0 : w2.cell? ⟨w.heap.size, 0, none⟩ = some (.int .i64 f) := cell_of_row _ _ 0 _ _ _ HZw2.out
  have z1 : w2.cell? ⟨w.heap.size, 1, none⟩ = some (.slice pa m pc) := cell_of_row _ _ 1 _ _ _ HZw2.out
  go_wp2
  go_ret
  exact ⟨rfl, HBw2.out⟩
set_option maxRecDepth 100000 in
set_option maxHeartbeats 8000000 in
theorem more_no (a : Option Addr) (n cap : Nat) (l : List Ve) (hn : l.length = n) (f : Int) (pa : Option Addr) (m pc : Nat) (ps : List Int) (hm : ps.length = m) (t band : Int) (w : World) (hA : VesAt w.heap.size w a l) (hP : PrAt w.heap.size w pa ps) (hnx : n ≤ cap ∧ cap ≤ maxLen) (hmx : m ≤ pc ∧ pc ≤ maxLen) (hPow : Pow w) (hm40 : m ≤ 40) (hno : ¬ WithMay l ⟨f, ps⟩) :
    Calls Tryd.prog 5 #[.slice a n cap, verV f pa m pc, .int .i64 t, .int .i64 band] w fun e w' => e = .returned (.bool true) ∧ Below w.heap.size w w' := by
  have HB0 := Lib.hid ((Below.refl _ w).alloc (Nat.le_refl _) (.cells #[.int .i64 f, .slice pa m pc] 42))
  have HZ0 := Lib.hid (heap_alloc_new w (.cells #[.int .i64 f, .slice pa m pc] 42))
  have HL0 : Hid ((w.alloc (.cells #[.int .i64 f, .slice pa m pc] 42)).heap.size = w.heap.size + 1) := Lib.hid (World.size_alloc _ _)
  have HAL := Lib.hid (fun (W : World) (hB : Below w.heap.size w W) => alive_any W (hPow.next hB (Nat.le_refl _)))
  have HGR := Lib.hid (fun (W : World) (hB : Below w.heap.size w W) => rGreat_any a n cap l hn W (hA.grow hB) hnx)
  have HWI := Lib.hid (fun (W : World) (hB : Below w.heap.size w W) => withO_any a n cap l hn f pa m pc ps hm W (hA.grow hB) (hP.grow hB) hnx hmx)
  have HPR := Lib.hid (fun (W : World) (hB : Below w.heap.size w W) => price_any a n cap l hn t band W (hA.grow hB) hnx)
  have HPP := Lib.hid hP
  unfold WithO at HWI
  have hm4 : ¬ (40 : Int) < m := by omega
  rw [show wT l ⟨f, ps⟩ = [] from if_neg hno, show wG l ⟨f, ps⟩ = 100 from if_neg hno] at HWI
  clear hA hP hn hm hPow hm40 hno
  go_enter Tryd.func5, Tryd.ntmps5
  go_wp2_with fail
  refine (HAL.out _ HB0.out).mono ?_
  rintro e w1 ⟨rfl, hB⟩
  have HZw1 := Lib.hid ((hB.block w.heap.size (by have := HL0.out; omega)).trans HZ0.out)
  have HLw1 := Lib.hid (show w.heap.size + 1 ≤ w1.heap.size by have := hB.size; have := HL0.out; omega)
  clear HAL
  have HBw1 := Lib.hid (HB0.out.trans (hB.mono HB0.out.size))
  clear hB HZ0 HL0 HB0
  go_wp2_with fail
  refine (HGR.out _ HBw1.out).mono ?_
  rintro e w2 ⟨hg | hg, hB⟩
  all_goals
    subst hg
    have HZw2 := Lib.hid ((hB.block w.heap.size (by have := HLw1.out; omega)).trans HZw1.out)
    have HLw2 := Lib.hid (show w.heap.size + 1 ≤ w2.heap.size by have := hB.size; have := HLw1.out; omega)
    have HBw2 := Lib.hid (HBw1.out.trans (hB.mono HBw1.out.size))
    clear hB HZw1 HLw1 HBw1 HGR
  rotate_left
  · go_wp2
    go_ret
    exact ⟨rfl, HBw2.out⟩
  have z0 : w2.cell? ⟨w.heap.size, 0, none⟩ = some (.int .i64 f) := cell_of_row _ _ 0 _ _ _ HZw2.out
  have z1 : w2.cell? ⟨w.heap.size, 1, none⟩ = some (.slice pa m pc) := cell_of_row _ _ 1 _ _ _ HZw2.out
  go_wp2_with fail
  refine (HWI.out _ HBw2.out).mono ?_
  rintro e w3 ⟨⟨xa, xc, rfl, hx, hxc⟩, hB⟩
  have HZw3 := Lib.hid ((hB.block w.heap.size (by have := HLw2.out; omega)).trans HZw2.out)
  have HLw3 := Lib.hid (show w.heap.size + 1 ≤ w3.heap.size by have := hB.size; have := HLw2.out; omega)
  clear z0 z1 hx hxc
  have HBw3 := Lib.hid (HBw2.out.trans (hB.mono HBw2.out.size))
  clear hB HZw2 HLw2 HBw2
  go_wp2
  go_ret
  exact ⟨rfl, HBw3.out⟩
end Go.Proofs.YthlpigffjbhmoaaDoor
