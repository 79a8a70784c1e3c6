/- The contract of dateOf; the iterator's, as a caller has it. -/
import Derived.Test.YtgedcfgmfhlkdaaDoorHIter
import Derived.Test.YtgedcfgmfhlkdaaDoorHCheck
set_option linter.unusedVariables false
set_option linter.unusedSimpArgs false
namespace Go.Proofs.YtgedcfgmfhlkdaaDoor
open Go.RowKit Go.Shelf
theorem results_dateOf {y m d e : Int} {b : Nat} {tmps : Array Value} {w : World} (h2 : tmps.getD 4 undef = .pointer (some ⟨b, 0, none⟩)) (h3 : tmps.getD 5 undef = .int .i64 e)
    (hb : w.heap[b]? = some (.cells #[.int .i64 y, .int .i64 m, .int .i64 d] 39 (0, 0))) : (results Tryd.f36 tmps).run Tryd.prog w = .ok (.tuple #[dateV y m d, .int .i64 e]) w := by
  have c0 : w.cell? ⟨b, 0, none⟩ = some (.int .i64 y) := cell_of_row w b 0 _ _ _ hb
  have c1 : w.cell? ⟨b, 1, none⟩ = some (.int .i64 m) := cell_of_row w b 1 _ _ _ hb
  have c2 : w.cell? ⟨b, 2, none⟩ = some (.int .i64 d) := cell_of_row w b 2 _ _ _ hb
  simp only [Array.getD_eq_getD_getElem?] at h2 h3
  simp [results, Tryd.results36, go_sem, h2, h3, c0, c1, c2, dateV]
set_option maxRecDepth 100000 in
set_option maxHeartbeats 2000000 in
theorem dateOf_bad (ha : Option Addr) (hl hc : Nat) (sa : Option Addr) (sl sc : Nat) (H : Nat → Ho) (S : Nat → Se) (x : Int) (hcal : ¬ CalIs H hl S sl) (w : World) (hH : HosAt w.heap.size w ha hl H) (hS : SeasAt w.heap.size w sa sl S) (hT : Tabs w) (hlm : hl ≤ maxLen) (slm : sl ≤ maxLen) :
    Calls Tryd.prog 36 #[calV ha hl hc sa sl sc, .int .i64 x] w fun e w' => e = .returned (.tuple #[dateV 0 0 0, .int .i64 80]) ∧ Below w.heap.size w w' := by
  have hb0 := ((Below.refl _ w).alloc (Nat.le_refl _) (.cells #[.slice ha hl hc, .slice sa sl sc] 25)).alloc (by simp) (.cells #[.int .i64 0, .int .i64 0, .int .i64 0] 39)
  have e1 : w.heap.size + 1 = (w.alloc (.cells #[.slice ha hl hc, .slice sa sl sc] 25)).heap.size := by rw [World.size_alloc]
  have hz : ((w.alloc (.cells #[.slice ha hl hc, .slice sa sl sc] 25)).alloc (.cells #[.int .i64 0, .int .i64 0, .int .i64 0] 39)).heap[w.heap.size + 1]? = some (.cells #[.int .i64 0, .int .i64 0, .int .i64 0] 39) := by rw [e1]; exact heap_alloc_new _ _
  have hsz : ((w.alloc (.cells #[.slice ha hl hc, .slice sa sl sc] 25)).alloc (.cells #[.int .i64 0, .int .i64 0, .int .i64 0] 39)).heap.size = w.heap.size + 2 := by simp [World.size_alloc]
  have HCK := Lib.hid (checkD_any ha hl hc sa sl sc H S ((w.alloc (.cells #[.slice ha hl hc, .slice sa sl sc] 25)).alloc (.cells #[.int .i64 0, .int .i64 0, .int .i64 0] 39)) ((hH.next hb0 (Nat.le_refl _) (Nat.le_refl _)).mono (by omega)) ((hS.next hb0 (Nat.le_refl _) (Nat.le_refl _)).mono (by omega)) (hT.next hb0) hlm slm)
  rw [calE_no hcal] at HCK
  have HT := Lib.hid hT
  have HZ := Lib.hid hz
  have HB0 := Lib.hid hb0
  have HSZ := Lib.hid hsz
  clear hH hS hT hz hb0 hsz e1 hlm slm hcal
  go_enter Tryd.func36, Tryd.ntmps36
  go_wp2_with fail
  refine HCK.out.mono ?_
  rintro e w1 ⟨rfl, hB1⟩
  have hz1 := (hB1.block (w.heap.size + 1) (by rw [HSZ.out]; omega)).trans HZ.out
  have hb1 := HB0.out.trans (hB1.mono HB0.out.size)
  obtain ⟨a0, a1, a2⟩ := hcells3 hz1
  obtain ⟨f0, f1, f2⟩ := frozen3 hz1
  have HF := Lib.hid hz1
  have HB1 := Lib.hid hb1
  clear hB1 hz1 hb1
  go_wp2
  refine bodyPost_ret (results_dateOf rfl rfl (set3 HF.out 0 0 0)) rfl ?_
  exact ⟨rfl, set3_below HB1.out (by omega) 0 0 0⟩
set_option maxRecDepth 100000 in
set_option maxHeartbeats 2000000 in
theorem dateOf_no (ha : Option Addr) (hl hc : Nat) (sa : Option Addr) (sl sc : Nat) (H : Nat → Ho) (S : Nat → Se) (x : Int) (hcal : CalIs H hl S sl) (hd : ¬ (0 ≤ x ∧ x ≤ 2932896)) (w : World) (hH : HosAt w.heap.size w ha hl H) (hS : SeasAt w.heap.size w sa sl S) (hT : Tabs w) (hlm : hl ≤ maxLen) (slm : sl ≤ maxLen) :
    Calls Tryd.prog 36 #[calV ha hl hc sa sl sc, .int .i64 x] w fun e w' => e = .returned (.tuple #[dateV 0 0 0, .int .i64 60]) ∧ Below w.heap.size w w' := by
  have hb0 := ((Below.refl _ w).alloc (Nat.le_refl _) (.cells #[.slice ha hl hc, .slice sa sl sc] 25)).alloc (by simp) (.cells #[.int .i64 0, .int .i64 0, .int .i64 0] 39)
  have e1 : w.heap.size + 1 = (w.alloc (.cells #[.slice ha hl hc, .slice sa sl sc] 25)).heap.size := by rw [World.size_alloc]
  have hz : ((w.alloc (.cells #[.slice ha hl hc, .slice sa sl sc] 25)).alloc (.cells #[.int .i64 0, .int .i64 0, .int .i64 0] 39)).heap[w.heap.size + 1]? = some (.cells #[.int .i64 0, .int .i64 0, .int .i64 0] 39) := by rw [e1]; exact heap_alloc_new _ _
  have hsz : ((w.alloc (.cells #[.slice ha hl hc, .slice sa sl sc] 25)).alloc (.cells #[.int .i64 0, .int .i64 0, .int .i64 0] 39)).heap.size = w.heap.size + 2 := by simp [World.size_alloc]
  have HCK := Lib.hid (checkD_any ha hl hc sa sl sc H S ((w.alloc (.cells #[.slice ha hl hc, .slice sa sl sc] 25)).alloc (.cells #[.int .i64 0, .int .i64 0, .int .i64 0] 39)) ((hH.next hb0 (Nat.le_refl _) (Nat.le_refl _)).mono (by omega)) ((hS.next hb0 (Nat.le_refl _) (Nat.le_refl _)).mono (by omega)) (hT.next hb0) hlm slm)
  rw [calE_yes hcal] at HCK
  have HT := Lib.hid hT
  have HZ := Lib.hid hz
  have HB0 := Lib.hid hb0
  have HSZ := Lib.hid hsz
  have HD := Lib.hid hd
  clear hd
  clear hH hS hT hz hb0 hsz e1 hlm slm hcal
  go_enter Tryd.func36, Tryd.ntmps36
  go_wp2_with fail
  refine HCK.out.mono ?_
  rintro e w1 ⟨rfl, hB1⟩
  have hz1 := (hB1.block (w.heap.size + 1) (by rw [HSZ.out]; omega)).trans HZ.out
  have hb1 := HB0.out.trans (hB1.mono HB0.out.size)
  have HOF := Lib.hid ((fun W hW => of_no x W hW HD.out) w1 (HT.out.next hb1))
  have hw1 : w.heap.size + 1 < w1.heap.size := by have := hB1.size; rw [HSZ.out] at this; omega
  have HF := Lib.hid hz1
  have HB1 := Lib.hid hb1
  clear hB1 hz1 hb1
  go_wp2_with fail
  refine HOF.out.mono ?_
  rintro e w2 ⟨rfl, hB2⟩
  have hz2 := (hB2.block (w.heap.size + 1) hw1).trans HF.out
  obtain ⟨a0, a1, a2⟩ := hcells3 hz2
  obtain ⟨f0, f1, f2⟩ := frozen3 hz2
  have HF2 := Lib.hid hz2
  have HB2 := Lib.hid (HB1.out.trans (hB2.mono HB1.out.size))
  clear hB2 hz2
  go_wp2
  refine bodyPost_ret (results_dateOf rfl rfl (set3 HF2.out 0 0 0)) rfl ?_
  exact ⟨rfl, set3_below HB2.out (by omega) 0 0 0⟩
set_option maxRecDepth 100000 in
set_option maxHeartbeats 2000000 in
theorem dateOf_yes (ha : Option Addr) (hl hc : Nat) (sa : Option Addr) (sl sc : Nat) (H : Nat → Ho) (S : Nat → Se) (x : Int) (hcal : CalIs H hl S sl) (y m d : Int) (hd : IsDate x y m d) (w : World) (hH : HosAt w.heap.size w ha hl H) (hS : SeasAt w.heap.size w sa sl S) (hT : Tabs w) (hlm : hl ≤ maxLen) (slm : sl ≤ maxLen) :
    Calls Tryd.prog 36 #[calV ha hl hc sa sl sc, .int .i64 x] w fun e w' => e = .returned (.tuple #[dateV y m d, .int .i64 0]) ∧ Below w.heap.size w w' := by
  have hb0 := ((Below.refl _ w).alloc (Nat.le_refl _) (.cells #[.slice ha hl hc, .slice sa sl sc] 25)).alloc (by simp) (.cells #[.int .i64 0, .int .i64 0, .int .i64 0] 39)
  have e1 : w.heap.size + 1 = (w.alloc (.cells #[.slice ha hl hc, .slice sa sl sc] 25)).heap.size := by rw [World.size_alloc]
  have hz : ((w.alloc (.cells #[.slice ha hl hc, .slice sa sl sc] 25)).alloc (.cells #[.int .i64 0, .int .i64 0, .int .i64 0] 39)).heap[w.heap.size + 1]? = some (.cells #[.int .i64 0, .int .i64 0, .int .i64 0] 39) := by rw [e1]; exact heap_alloc_new _ _
  have hsz : ((w.alloc (.cells #[.slice ha hl hc, .slice sa sl sc] 25)).alloc (.cells #[.int .i64 0, .int .i64 0, .int .i64 0] 39)).heap.size = w.heap.size + 2 := by simp [World.size_alloc]
  have HCK := Lib.hid (checkD_any ha hl hc sa sl sc H S ((w.alloc (.cells #[.slice ha hl hc, .slice sa sl sc] 25)).alloc (.cells #[.int .i64 0, .int .i64 0, .int .i64 0] 39)) ((hH.next hb0 (Nat.le_refl _) (Nat.le_refl _)).mono (by omega)) ((hS.next hb0 (Nat.le_refl _) (Nat.le_refl _)).mono (by omega)) (hT.next hb0) hlm slm)
  rw [calE_yes hcal] at HCK
  have HT := Lib.hid hT
  have HZ := Lib.hid hz
  have HB0 := Lib.hid hb0
  have HSZ := Lib.hid hsz
  have HD := Lib.hid hd
  clear hd
  clear hH hS hT hz hb0 hsz e1 hlm slm hcal
  go_enter Tryd.func36, Tryd.ntmps36
  go_wp2_with fail
  refine HCK.out.mono ?_
  rintro e w1 ⟨rfl, hB1⟩
  have hz1 := (hB1.block (w.heap.size + 1) (by rw [HSZ.out]; omega)).trans HZ.out
  have hb1 := HB0.out.trans (hB1.mono HB0.out.size)
  have HOF := Lib.hid (of_is x y m d HD.out w1 (HT.out.next hb1))
  have hw1 : w.heap.size + 1 < w1.heap.size := by have := hB1.size; rw [HSZ.out] at this; omega
  have HF := Lib.hid hz1
  have HB1 := Lib.hid hb1
  clear hB1 hz1 hb1
  go_wp2_with fail
  refine HOF.out.mono ?_
  rintro e w2 ⟨rfl, hB2⟩
  have hz2 := (hB2.block (w.heap.size + 1) hw1).trans HF.out
  obtain ⟨a0, a1, a2⟩ := hcells3 hz2
  obtain ⟨f0, f1, f2⟩ := frozen3 hz2
  have HF2 := Lib.hid hz2
  have HB2 := Lib.hid (HB1.out.trans (hB2.mono HB1.out.size))
  clear hB2 hz2
  go_wp2
  refine bodyPost_ret (results_dateOf rfl rfl (set3 HF2.out y m d)) rfl ?_
  exact ⟨rfl, set3_below HB2.out (by omega) y m d⟩
theorem holidaysIn_in (n : Nat) (ha : Option Addr) (hl hc : Nat) (sa : Option Addr) (sl sc : Nat) (y : Int) (w : World) :
    CallsIn Fence.wide n Tryd.prog 37 #[calV ha hl hc sa sl sc, .int .i64 y] w fun e w' => e = .returned (.func (.func 57) #[] #[.pointer (some ⟨w.heap.size, 0, none⟩), .pointer (some ⟨w.heap.size + 1, 0, none⟩)]) ∧ w' = (w.alloc (.cells #[.slice ha hl hc, .slice sa sl sc] 25)).alloc (.cells #[.int .i64 y] 3) := by
  refine callsIn_of_wp Tryd.func37 rfl trivial ?_ rfl
  simp only [Tryd.ntmps37, List.size_toArray, List.length_cons, List.length_nil, Nat.reduceAdd, Nat.reduceSub, Array.replicate_succ, Array.replicate_zero, List.push_toArray, List.append_toArray, List.nil_append, List.cons_append]
  gi_wp2
  go_ret
  exact ⟨rfl, rfl⟩
theorem hol_stops (n : Nat) (hn : 1 ≤ n) (Bc By n₀ : Nat) (ha : Option Addr) (hl hc : Nat) (sa : Option Addr) (sl sc : Nat) (H : Nat → Ho) (y : Int) (hlm : hl ≤ 100) (hho : ∀ i, i < hl → HoIs (H i)) (hy0 : 1970 ≤ y) (hy1 : y ≤ 9999) (hBc : Bc < n₀) (hBy : By < n₀) (h0n : 0 < n₀)
    (w0 : World) (hn0 : n₀ ≤ w0.heap.size) (hC : w0.heap[Bc]? = some (.cells #[.slice ha hl hc, .slice sa sl sc] 25 (0, 0))) (hYr : w0.heap[By]? = some (.cells #[.int .i64 y] 3 (0, 0))) (hH : HosAt n₀ w0 ha hl H) (hT : Tabs w0) :
    SeqStopsK Fence.wide n Tryd.prog 57 #[.pointer (some ⟨Bc, 0, none⟩), .pointer (some ⟨By, 0, none⟩)] encE (Below n₀) (fun xs => xs = hdL H y hl) (fun pre => pre <+: hdL H y hl) (hdL H y hl).length w0 := by
  intro l J Jx W hW hJ hJx hY h0
  exact hol1_in n hn l Bc By n₀ ha hl hc sa sl sc H y hlm hho hy0 hy1 hBc hBy h0n J Jx hY W hJ (Nat.le_trans hn0 hW.size) ((hW.block Bc (by omega)).trans hC) ((hW.block By (by omega)).trans hYr) (hH.next hW hn0 (Nat.le_refl _)) (hT.next hW) h0
end Go.Proofs.YtgedcfgmfhlkdaaDoor
