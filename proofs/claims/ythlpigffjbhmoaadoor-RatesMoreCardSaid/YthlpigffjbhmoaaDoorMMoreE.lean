/- The statement RatesMore, walked: part E. -/
import Derived.Test.YthlpigffjbhmoaaDoorEFew
import Derived.Test.YthlpigffjbhmoaaDoorEMath
import Derived.Test.YthlpigffjbhmoaaDoorVHoldM
import Derived.Test.YthlpigffjbhmoaaDoorVRef1
set_option linter.unusedVariables false
set_option linter.unusedSimpArgs false
namespace Go.Proofs.YthlpigffjbhmoaaDoor
open Go.RowKit Go.Shelf
set_option maxRecDepth 100000 in
set_option maxHeartbeats 8000000 in
theorem more_e0 (a : Option Addr) (n cap : Nat) (l : List Ve) (hn : l.length = n) (f : Int) (pa : Option Addr) (m pc : Nat) (ps : List Int) (hm : ps.length = m) (t band : Int) (w : World) (hA : VesAt w.heap.size w a l) (hP : PrAt w.heap.size w pa ps) (hnx : n ≤ cap ∧ cap ≤ maxLen) (hmx : m ≤ pc ∧ pc ≤ maxLen) (hPow : Pow w) (hm40 : m ≤ 40) (hyes : WithMay l ⟨f, ps⟩) (htf : ¬ t < f) (hq : nextO (withL l ⟨f, ps⟩) f = none) (h2 : (m : Int) ≤ band) :
    Calls Tryd.prog 5 #[.slice a n cap, verV f pa m pc, .int .i64 t, .int .i64 band] w fun e w' => e = .returned (.bool true) ∧ Below w.heap.size w w' := by
  have HB0 := Lib.hid ((Below.refl _ w).alloc (Nat.le_refl _) (.cells #[.int .i64 f, .slice pa m pc] 42))
  have HZ0 := Lib.hid (heap_alloc_new w (.cells #[.int .i64 f, .slice pa m pc] 42))
  have HL0 : Hid ((w.alloc (.cells #[.int .i64 f, .slice pa m pc] 42)).heap.size = w.heap.size + 1) := Lib.hid (World.size_alloc _ _)
  have HAL := Lib.hid (fun (W : World) (hB : Below w.heap.size w W) => alive_any W (hPow.next hB (Nat.le_refl _)))
  have HGR := Lib.hid (fun (W : World) (hB : Below w.heap.size w W) => rGreat_any a n cap l hn W (hA.grow hB) hnx)
  have HWI := Lib.hid (fun (W : World) (hB : Below w.heap.size w W) => withO_any a n cap l hn f pa m pc ps hm W (hA.grow hB) (hP.grow hB) hnx hmx)
  have HPR := Lib.hid (fun (W : World) (hB : Below w.heap.size w W) => price_any a n cap l hn t band W (hA.grow hB) hnx)
  have HPP := Lib.hid hP
  unfold WithO at HWI
  have hm4 : ¬ (40 : Int) < m := by omega
  have hver : verO (withL l ⟨f, ps⟩) t = some ⟨f, ps⟩ := more_between hyes (by show f ≤ t; omega) (fun r hr => by rw [hq] at hr; cases hr)
  have htf2 : ¬ t < f := htf
  rw [show wT l ⟨f, ps⟩ = withL l ⟨f, ps⟩ from if_pos hyes, show wG l ⟨f, ps⟩ = 0 from if_pos hyes] at HWI
  obtain ⟨M, hM⟩ : ∃ M, withL l ⟨f, ps⟩ = M := ⟨_, rfl⟩
  rw [hM] at HWI hq hver
  obtain ⟨N, hN⟩ : ∃ N, M.length = N := ⟨_, rfl⟩
  rw [hN] at HWI
  have HPX := Lib.hid (fun xa xc W (hx : VesAt W.heap.size W xa M) (hxc : N ≤ xc ∧ xc ≤ maxLen) => price_any xa N xc M hN t band W hx hxc)
  have HNX := Lib.hid (fun xa xc W (hx : VesAt W.heap.size W xa M) (hxc : N ≤ xc ∧ xc ≤ maxLen) => next_any xa N xc M hN f W hx hxc)
  rw [price_ver hver] at HPX
  rw [hq, optV_none] at HNX
  unfold optV at HPR
  obtain ⟨oz, hoz⟩ : ∃ nz, (priceO l t band).getD 0 = nz := ⟨_, rfl⟩
  obtain ⟨oy, hoy⟩ : ∃ ny, (priceO l t band).isSome = ny := ⟨_, rfl⟩
  rw [hoz, hoy] at HPR
  have hb0 : (0 : Int) ≤ band := by omega
  have hbq : ¬ band < (m : Int) := by omega
  have hbd : decide (band < (m : Int)) = false := decide_eq_false hbq
  rw [if_pos hb0, show (⟨f, ps⟩ : Ve).ps[band.toNat]? = none from List.getElem?_eq_none (by show ps.length ≤ _; omega), optV_none] at HPX
  clear hA hP hn hm hPow hm40 hyes hM hN hver hq htf hoz hoy h2
  go_enter Tryd.func5, Tryd.ntmps5
  go_wp2_with fail
  refine (HAL.out _ HB0.out).mono ?_
  rintro e w1 ⟨rfl, hB⟩
  have HZw1 := Lib.hid ((hB.block w.heap.size (by have := HL0.out; omega)).trans HZ0.out)
  have HLw1 := Lib.hid (show w.heap.size + 1 ≤ w1.heap.size by have := hB.size; have := HL0.out; omega)
  clear HAL
  have HBw1 := Lib.hid (HB0.out.trans (hB.mono HB0.out.size))
  clear hB HZ0 HL0 HB0
  go_wp2_with fail
  refine (HGR.out _ HBw1.out).mono ?_
  rintro e w2 ⟨hg | hg, hB⟩
  all_goals
    subst hg
    have HZw2 := Lib.hid ((hB.block w.heap.size (by have := HLw1.out; omega)).trans HZw1.out)
    have HLw2 := Lib.hid (show w.heap.size + 1 ≤ w2.heap.size by have := hB.size; have := HLw1.out; omega)
    have HBw2 := Lib.hid (HBw1.out.trans (hB.mono HBw1.out.size))
    clear hB HZw1 HLw1 HBw1 HGR
  rotate_left
  · go_wp2
    go_ret
    exact ⟨rfl, HBw2.out⟩
  have z0 : w2.cell? ⟨w.heap.size, 0, none⟩ = some (.int .i64 f) := cell_of_row _ _ 0 _ _ _ HZw2.out
  have z1 : w2.cell? ⟨w.heap.size, 1, none⟩ = some (.slice pa m pc) := cell_of_row _ _ 1 _ _ _ HZw2.out
  go_wp2_with fail
  refine (HWI.out _ HBw2.out).mono ?_
  rintro e w3 ⟨⟨xa, xc, rfl, hx, hxc⟩, hB⟩
  have HZw3 := Lib.hid ((hB.block w.heap.size (by have := HLw2.out; omega)).trans HZw2.out)
  have HLw3 := Lib.hid (show w.heap.size + 1 ≤ w3.heap.size by have := hB.size; have := HLw2.out; omega)
  have HX3 := Lib.hid hx
  clear z0 z1 hx HWI
  have HBw3 := Lib.hid (HBw2.out.trans (hB.mono HBw2.out.size))
  clear hB HZw2 HLw2 HBw2
  go_wp2_with fail
  refine (HPR.out _ HBw3.out).mono ?_
  rintro e w4 ⟨rfl, hB⟩
  have HZw4 := Lib.hid ((hB.block w.heap.size (by have := HLw3.out; omega)).trans HZw3.out)
  have HLw4 := Lib.hid (show w.heap.size + 1 ≤ w4.heap.size by have := hB.size; have := HLw3.out; omega)
  have HX4 := Lib.hid (HX3.out.grow hB)
  clear HX3 HPR
  have HBw4 := Lib.hid (HBw3.out.trans (hB.mono HBw3.out.size))
  clear hB HZw3 HLw3 HBw3
  go_wp2_with fail
  refine (HPX.out xa xc _ HX4.out hxc).mono ?_
  rintro e w5 ⟨rfl, hB⟩
  have HZw5 := Lib.hid ((hB.block w.heap.size (by have := HLw4.out; omega)).trans HZw4.out)
  have HLw5 := Lib.hid (show w.heap.size + 1 ≤ w5.heap.size by have := hB.size; have := HLw4.out; omega)
  have HX5 := Lib.hid (HX4.out.grow hB)
  clear HX4 HPX
  have HBw5 := Lib.hid (HBw4.out.trans (hB.mono HBw4.out.size))
  clear hB HZw4 HLw4 HBw4
  have z0 : w5.cell? ⟨w.heap.size, 0, none⟩ = some (.int .i64 f) := cell_of_row _ _ 0 _ _ _ HZw5.out
  have z1 : w5.cell? ⟨w.heap.size, 1, none⟩ = some (.slice pa m pc) := cell_of_row _ _ 1 _ _ _ HZw5.out
  go_wp2_with fail
  refine (HNX.out xa xc _ HX5.out hxc).mono ?_
  rintro e w6 ⟨rfl, hB⟩
  have HZw6 := Lib.hid ((hB.block w.heap.size (by have := HLw5.out; omega)).trans HZw5.out)
  have HLw6 := Lib.hid (show w.heap.size + 1 ≤ w6.heap.size by have := hB.size; have := HLw5.out; omega)
  clear HX5 HNX z0 z1
  have HBw6 := Lib.hid (HBw5.out.trans (hB.mono HBw5.out.size))
  clear hB HZw5 HLw5 HBw5
  have z0 : w6.cell? ⟨w.heap.size, 0, none⟩ = some (.int .i64 f) := cell_of_row _ _ 0 _ _ _ HZw6.out
  have z1 : w6.cell? ⟨w.heap.size, 1, none⟩ = some (.slice pa m pc) := cell_of_row _ _ 1 _ _ _ HZw6.out
  go_wp2
  go_ret
  exact ⟨rfl, HBw6.out⟩
set_option maxRecDepth 100000 in
set_option maxHeartbeats 8000000 in
theorem more_e1 (a : Option Addr) (n cap : Nat) (l : List Ve) (hn : l.length = n) (f : Int) (pa : Option Addr) (m pc : Nat) (ps : List Int) (hm : ps.length = m) (t band : Int) (w : World) (hA : VesAt w.heap.size w a l) (hP : PrAt w.heap.size w pa ps) (hnx : n ≤ cap ∧ cap ≤ maxLen) (hmx : m ≤ pc ∧ pc ≤ maxLen) (hPow : Pow w) (hm40 : m ≤ 40) (hyes : WithMay l ⟨f, ps⟩) (htf : ¬ t < f) (q : Int) (hq : nextO (withL l ⟨f, ps⟩) f = some q) (hqt : ¬ q ≤ t) (h2 : (m : Int) ≤ band) :
    Calls Tryd.prog 5 #[.slice a n cap, verV f pa m pc, .int .i64 t, .int .i64 band] w fun e w' => e = .returned (.bool true) ∧ Below w.heap.size w w' := by
  have HB0 := Lib.hid ((Below.refl _ w).alloc (Nat.le_refl _) (.cells #[.int .i64 f, .slice pa m pc] 42))
  have HZ0 := Lib.hid (heap_alloc_new w (.cells #[.int .i64 f, .slice pa m pc] 42))
  have HL0 : Hid ((w.alloc (.cells #[.int .i64 f, .slice pa m pc] 42)).heap.size = w.heap.size + 1) := Lib.hid (World.size_alloc _ _)
  have HAL := Lib.hid (fun (W : World) (hB : Below w.heap.size w W) => alive_any W (hPow.next hB (Nat.le_refl _)))
  have HGR := Lib.hid (fun (W : World) (hB : Below w.heap.size w W) => rGreat_any a n cap l hn W (hA.grow hB) hnx)
  have HWI := Lib.hid (fun (W : World) (hB : Below w.heap.size w W) => withO_any a n cap l hn f pa m pc ps hm W (hA.grow hB) (hP.grow hB) hnx hmx)
  have HPR := Lib.hid (fun (W : World) (hB : Below w.heap.size w W) => price_any a n cap l hn t band W (hA.grow hB) hnx)
  have HPP := Lib.hid hP
  unfold WithO at HWI
  have hm4 : ¬ (40 : Int) < m := by omega
  have hver : verO (withL l ⟨f, ps⟩) t = some ⟨f, ps⟩ := more_between hyes (by show f ≤ t; omega) (fun r hr => by rw [hq] at hr; cases hr; omega)
  have htf2 : ¬ t < f := htf
  have hqt2 : ¬ q ≤ t := hqt
  rw [show wT l ⟨f, ps⟩ = withL l ⟨f, ps⟩ from if_pos hyes, show wG l ⟨f, ps⟩ = 0 from if_pos hyes] at HWI
  obtain ⟨M, hM⟩ : ∃ M, withL l ⟨f, ps⟩ = M := ⟨_, rfl⟩
  rw [hM] at HWI hq hver
  obtain ⟨N, hN⟩ : ∃ N, M.length = N := ⟨_, rfl⟩
  rw [hN] at HWI
  have HPX := Lib.hid (fun xa xc W (hx : VesAt W.heap.size W xa M) (hxc : N ≤ xc ∧ xc ≤ maxLen) => price_any xa N xc M hN t band W hx hxc)
  have HNX := Lib.hid (fun xa xc W (hx : VesAt W.heap.size W xa M) (hxc : N ≤ xc ∧ xc ≤ maxLen) => next_any xa N xc M hN f W hx hxc)
  rw [price_ver hver] at HPX
  rw [hq, optV_some] at HNX
  unfold optV at HPR
  obtain ⟨oz, hoz⟩ : ∃ nz, (priceO l t band).getD 0 = nz := ⟨_, rfl⟩
  obtain ⟨oy, hoy⟩ : ∃ ny, (priceO l t band).isSome = ny := ⟨_, rfl⟩
  rw [hoz, hoy] at HPR
  have hb0 : (0 : Int) ≤ band := by omega
  have hbq : ¬ band < (m : Int) := by omega
  have hbd : decide (band < (m : Int)) = false := decide_eq_false hbq
  rw [if_pos hb0, show (⟨f, ps⟩ : Ve).ps[band.toNat]? = none from List.getElem?_eq_none (by show ps.length ≤ _; omega), optV_none] at HPX
  clear hA hP hn hm hPow hm40 hyes hM hN hver hq htf hoz hoy hqt h2
  go_enter Tryd.func5, Tryd.ntmps5
  go_wp2_with fail
  refine (HAL.out _ HB0.out).mono ?_
  rintro e w1 ⟨rfl, hB⟩
  have HZw1 := Lib.hid ((hB.block w.heap.size (by have := HL0.out; omega)).trans HZ0.out)
  have HLw1 := Lib.hid (show w.heap.size + 1 ≤ w1.heap.size by have := hB.size; have := HL0.out; omega)
  clear HAL
  have HBw1 := Lib.hid (HB0.out.trans (hB.mono HB0.out.size))
  clear hB HZ0 HL0 HB0
  go_wp2_with fail
  refine (HGR.out _ HBw1.out).mono ?_
  rintro e w2 ⟨hg | hg, hB⟩
  all_goals
    subst hg
    have HZw2 := Lib.hid ((hB.block w.heap.size (by have := HLw1.out; omega)).trans HZw1.out)
    have HLw2 := Lib.hid (show w.heap.size + 1 ≤ w2.heap.size by have := hB.size; have := HLw1.out; omega)
    have HBw2 := Lib.hid (HBw1.out.trans (hB.mono HBw1.out.size))
    clear hB HZw1 HLw1 HBw1 HGR
  rotate_left
  · go_wp2
    go_ret
    exact ⟨rfl, HBw2.out⟩
  have z0 : w2.cell? ⟨w.heap.size, 0, none⟩ = some (.int .i64 f) := cell_of_row _ _ 0 _ _ _ HZw2.out
  have z1 : w2.cell? ⟨w.heap.size, 1, none⟩ = some (.slice pa m pc) := cell_of_row _ _ 1 _ _ _ HZw2.out
  go_wp2_with fail
  refine (HWI.out _ HBw2.out).mono ?_
  rintro e w3 ⟨⟨xa, xc, rfl, hx, hxc⟩, hB⟩
  have HZw3 := Lib.hid ((hB.block w.heap.size (by have := HLw2.out; omega)).trans HZw2.out)
  have HLw3 := Lib.hid (show w.heap.size + 1 ≤ w3.heap.size by have := hB.size; have := HLw2.out; omega)
  have HX3 := Lib.hid hx
  clear z0 z1 hx HWI
  have HBw3 := Lib.hid (HBw2.out.trans (hB.mono HBw2.out.size))
  clear hB HZw2 HLw2 HBw2
  go_wp2_with fail
  refine (HPR.out _ HBw3.out).mono ?_
  rintro e w4 ⟨rfl, hB⟩
  have HZw4 := Lib.hid ((hB.block w.heap.size (by have := HLw3.out; omega)).trans HZw3.out)
  have HLw4 := Lib.hid (show w.heap.size + 1 ≤ w4.heap.size by have := hB.size; have := HLw3.out; omega)
  have HX4 := Lib.hid (HX3.out.grow hB)
  clear HX3 HPR
  have HBw4 := Lib.hid (HBw3.out.trans (hB.mono HBw3.out.size))
  clear hB HZw3 HLw3 HBw3
  go_wp2_with fail
  refine (HPX.out xa xc _ HX4.out hxc).mono ?_
  rintro e w5 ⟨rfl, hB⟩
  have HZw5 := Lib.hid ((hB.block w.heap.size (by have := HLw4.out; omega)).trans HZw4.out)
  have HLw5 := Lib.hid (show w.heap.size + 1 ≤ w5.heap.size by have := hB.size; have := HLw4.out; omega)
  have HX5 := Lib.hid (HX4.out.grow hB)
  clear HX4 HPX
  have HBw5 := Lib.hid (HBw4.out.trans (hB.mono HBw4.out.size))
  clear hB HZw4 HLw4 HBw4
  have z0 : w5.cell? ⟨w.heap.size, 0, none⟩ = some (.int .i64 f) := cell_of_row _ _ 0 _ _ _ HZw5.out
  have z1 : w5.cell? ⟨w.heap.size, 1, none⟩ = some (.slice pa m pc) := cell_of_row _ _ 1 _ _ _ HZw5.out
  go_wp2_with fail
  refine (HNX.out xa xc _ HX5.out hxc).mono ?_
  rintro e w6 ⟨rfl, hB⟩
  have HZw6 := Lib.hid ((hB.block w.heap.size (by have := HLw5.out; omega)).trans HZw5.out)
  have HLw6 := Lib.hid (show w.heap.size + 1 ≤ w6.heap.size by have := hB.size; have := HLw5.out; omega)
  clear HX5 HNX z0 z1
  have HBw6 := Lib.hid (HBw5.out.trans (hB.mono HBw5.out.size))
  clear hB HZw5 HLw5 HBw5
  have z0 : w6.cell? ⟨w.heap.size, 0, none⟩ = some (.int .i64 f) := cell_of_row _ _ 0 _ _ _ HZw6.out
  have z1 : w6.cell? ⟨w.heap.size, 1, none⟩ = some (.slice pa m pc) := cell_of_row _ _ 1 _ _ _ HZw6.out
  go_wp2
  go_ret
  exact ⟨rfl, HBw6.out⟩
end Go.Proofs.YthlpigffjbhmoaaDoor
