/- Joined: HDate HIsW HKind. -/
import Derived.Test.YtbffmobjiiicoaaDoorJH3
section
/- The contract of dateOf; the iterator's, as a caller has it. -/
set_option linter.unusedVariables false
set_option linter.unusedSimpArgs false
namespace Go.Proofs.YtbffmobjiiicoaaDoor.H8
open Go.RowKit Go.Shelf
theorem results_dateOf {y m d e : Int} {b : Nat} {tmps : Array Value} {w : World} (h2 : tmps.getD 4 undef = .pointer (some ⟨b, 0, none⟩)) (h3 : tmps.getD 5 undef = .int .i64 e)
    (hb : w.heap[b]? = some (.cells #[.int .i64 y, .int .i64 m, .int .i64 d] 110 (0, 0))) : (results Tryd.f48 tmps).run Tryd.prog w = .ok (.tuple #[dateV y m d, .int .i64 e]) w := by
  have c0 : w.cell? ⟨b, 0, none⟩ = some (.int .i64 y) := cell_of_row w b 0 _ _ _ hb
  have c1 : w.cell? ⟨b, 1, none⟩ = some (.int .i64 m) := cell_of_row w b 1 _ _ _ hb
  have c2 : w.cell? ⟨b, 2, none⟩ = some (.int .i64 d) := cell_of_row w b 2 _ _ _ hb
  simp only [Array.getD_eq_getD_getElem?] at h2 h3
  simp [results, Tryd.results48, go_sem, h2, h3, c0, c1, c2, dateV]
set_option maxRecDepth 100000 in
set_option maxHeartbeats 2000000 in
theorem dateOf_bad (ha : Option Addr) (hl hc : Nat) (sa : Option Addr) (sl sc : Nat) (H : Nat → Ho) (S : Nat → Se) (x : Int) (hcal : ¬ CalIs H hl S sl) (w : World) (hH : HosAt w.heap.size w ha hl H) (hS : SeasAt w.heap.size w sa sl S) (hT : Tabs w) (hlm : hl ≤ maxLen) (slm : sl ≤ maxLen) :
    Calls Tryd.prog 48 #[calV ha hl hc sa sl sc, .int .i64 x] w fun e w' => e = .returned (.tuple #[dateV 0 0 0, .int .i64 80]) ∧ Below w.heap.size w w' := by
  have hb0 := ((Below.refl _ w).alloc (Nat.le_refl _) (.cells #[.slice ha hl hc, .slice sa sl sc] 33)).alloc (by simp) (.cells #[.int .i64 0, .int .i64 0, .int .i64 0] 110)
  have e1 : w.heap.size + 1 = (w.alloc (.cells #[.slice ha hl hc, .slice sa sl sc] 33)).heap.size := by rw [World.size_alloc]
  have hz : ((w.alloc (.cells #[.slice ha hl hc, .slice sa sl sc] 33)).alloc (.cells #[.int .i64 0, .int .i64 0, .int .i64 0] 110)).heap[w.heap.size + 1]? = some (.cells #[.int .i64 0, .int .i64 0, .int .i64 0] 110) := by rw [e1]; exact heap_alloc_new _ _
  have hsz : ((w.alloc (.cells #[.slice ha hl hc, .slice sa sl sc] 33)).alloc (.cells #[.int .i64 0, .int .i64 0, .int .i64 0] 110)).heap.size = w.heap.size + 2 := by simp [World.size_alloc]
  have HCK := Lib.hid (checkD_any ha hl hc sa sl sc H S ((w.alloc (.cells #[.slice ha hl hc, .slice sa sl sc] 33)).alloc (.cells #[.int .i64 0, .int .i64 0, .int .i64 0] 110)) ((hH.next hb0 (Nat.le_refl _) (Nat.le_refl _)).mono (by omega)) ((hS.next hb0 (Nat.le_refl _) (Nat.le_refl _)).mono (by omega)) (hT.next hb0) hlm slm)
  rw [calE_no hcal] at HCK
  have HT := Lib.hid hT
  have HZ := Lib.hid hz
  have HB0 := Lib.hid hb0
  have HSZ := Lib.hid hsz
  clear hH hS hT hz hb0 hsz e1 hlm slm hcal
  go_enter Tryd.func48, Tryd.ntmps48
  go_wp2_with fail
  refine HCK.out.mono ?_
  rintro e w1 ⟨rfl, hB1⟩
  have hz1 := (hB1.block (w.heap.size + 1) (by rw [HSZ.out]; omega)).trans HZ.out
  have hb1 := HB0.out.trans (hB1.mono HB0.out.size)
  obtain ⟨a0, a1, a2⟩ := hcells3 hz1
  obtain ⟨f0, f1, f2⟩ := frozen3 hz1
  have HF := Lib.hid hz1
  have HB1 := Lib.hid hb1
  clear hB1 hz1 hb1
  go_wp2
  refine bodyPost_ret (results_dateOf rfl rfl (set3 HF.out 0 0 0)) rfl ?_
  exact ⟨rfl, set3_below HB1.out (by omega) 0 0 0⟩
set_option maxRecDepth 100000 in
set_option maxHeartbeats 2000000 in
theorem dateOf_no (ha : Option Addr) (hl hc : Nat) (sa : Option Addr) (sl sc : Nat) (H : Nat → Ho) (S : Nat → Se) (x : Int) (hcal : CalIs H hl S sl) (hd : ¬ (0 ≤ x ∧ x ≤ 2932896)) (w : World) (hH : HosAt w.heap.size w ha hl H) (hS : SeasAt w.heap.size w sa sl S) (hT : Tabs w) (hlm : hl ≤ maxLen) (slm : sl ≤ maxLen) :
    Calls Tryd.prog 48 #[calV ha hl hc sa sl sc, .int .i64 x] w fun e w' => e = .returned (.tuple #[dateV 0 0 0, .int .i64 60]) ∧ Below w.heap.size w w' := by
  have hb0 := ((Below.refl _ w).alloc (Nat.le_refl _) (.cells #[.slice ha hl hc, .slice sa sl sc] 33)).alloc (by simp) (.cells #[.int .i64 0, .int .i64 0, .int .i64 0] 110)
  have e1 : w.heap.size + 1 = (w.alloc (.cells #[.slice ha hl hc, .slice sa sl sc] 33)).heap.size := by rw [World.size_alloc]
  have hz : ((w.alloc (.cells #[.slice ha hl hc, .slice sa sl sc] 33)).alloc (.cells #[.int .i64 0, .int .i64 0, .int .i64 0] 110)).heap[w.heap.size + 1]? = some (.cells #[.int .i64 0, .int .i64 0, .int .i64 0] 110) := by rw [e1]; exact heap_alloc_new _ _
  have hsz : ((w.alloc (.cells #[.slice ha hl hc, .slice sa sl sc] 33)).alloc (.cells #[.int .i64 0, .int .i64 0, .int .i64 0] 110)).heap.size = w.heap.size + 2 := by simp [World.size_alloc]
  have HCK := Lib.hid (checkD_any ha hl hc sa sl sc H S ((w.alloc (.cells #[.slice ha hl hc, .slice sa sl sc] 33)).alloc (.cells #[.int .i64 0, .int .i64 0, .int .i64 0] 110)) ((hH.next hb0 (Nat.le_refl _) (Nat.le_refl _)).mono (by omega)) ((hS.next hb0 (Nat.le_refl _) (Nat.le_refl _)).mono (by omega)) (hT.next hb0) hlm slm)
  rw [calE_yes hcal] at HCK
  have HT := Lib.hid hT
  have HZ := Lib.hid hz
  have HB0 := Lib.hid hb0
  have HSZ := Lib.hid hsz
  have HD := Lib.hid hd
  clear hd
  clear hH hS hT hz hb0 hsz e1 hlm slm hcal
  go_enter Tryd.func48, Tryd.ntmps48
  go_wp2_with fail
  refine HCK.out.mono ?_
  rintro e w1 ⟨rfl, hB1⟩
  have hz1 := (hB1.block (w.heap.size + 1) (by rw [HSZ.out]; omega)).trans HZ.out
  have hb1 := HB0.out.trans (hB1.mono HB0.out.size)
  have HOF := Lib.hid ((fun W hW => of_no x W hW HD.out) w1 (HT.out.next hb1))
  have hw1 : w.heap.size + 1 < w1.heap.size := by have := hB1.size; rw [HSZ.out] at this; omega
  have HF := Lib.hid hz1
  have HB1 := Lib.hid hb1
  clear hB1 hz1 hb1
  go_wp2_with fail
  refine HOF.out.mono ?_
  rintro e w2 ⟨rfl, hB2⟩
  have hz2 := (hB2.block (w.heap.size + 1) hw1).trans HF.out
  obtain ⟨a0, a1, a2⟩ := hcells3 hz2
  obtain ⟨f0, f1, f2⟩ := frozen3 hz2
  have HF2 := Lib.hid hz2
  have HB2 := Lib.hid (HB1.out.trans (hB2.mono HB1.out.size))
  clear hB2 hz2
  go_wp2
  refine bodyPost_ret (results_dateOf rfl rfl (set3 HF2.out 0 0 0)) rfl ?_
  exact ⟨rfl, set3_below HB2.out (by omega) 0 0 0⟩
set_option maxRecDepth 100000 in
set_option maxHeartbeats 2000000 in
theorem dateOf_yes (ha : Option Addr) (hl hc : Nat) (sa : Option Addr) (sl sc : Nat) (H : Nat → Ho) (S : Nat → Se) (x : Int) (hcal : CalIs H hl S sl) (y m d : Int) (hd : IsDate x y m d) (w : World) (hH : HosAt w.heap.size w ha hl H) (hS : SeasAt w.heap.size w sa sl S) (hT : Tabs w) (hlm : hl ≤ maxLen) (slm : sl ≤ maxLen) :
    Calls Tryd.prog 48 #[calV ha hl hc sa sl sc, .int .i64 x] w fun e w' => e = .returned (.tuple #[dateV y m d, .int .i64 0]) ∧ Below w.heap.size w w' := by
  have hb0 := ((Below.refl _ w).alloc (Nat.le_refl _) (.cells #[.slice ha hl hc, .slice sa sl sc] 33)).alloc (by simp) (.cells #[.int .i64 0, .int .i64 0, .int .i64 0] 110)
  have e1 : w.heap.size + 1 = (w.alloc (.cells #[.slice ha hl hc, .slice sa sl sc] 33)).heap.size := by rw [World.size_alloc]
  have hz : ((w.alloc (.cells #[.slice ha hl hc, .slice sa sl sc] 33)).alloc (.cells #[.int .i64 0, .int .i64 0, .int .i64 0] 110)).heap[w.heap.size + 1]? = some (.cells #[.int .i64 0, .int .i64 0, .int .i64 0] 110) := by rw [e1]; exact heap_alloc_new _ _
  have hsz : ((w.alloc (.cells #[.slice ha hl hc, .slice sa sl sc] 33)).alloc (.cells #[.int .i64 0, .int .i64 0, .int .i64 0] 110)).heap.size = w.heap.size + 2 := by simp [World.size_alloc]
  have HCK := Lib.hid (checkD_any ha hl hc sa sl sc H S ((w.alloc (.cells #[.slice ha hl hc, .slice sa sl sc] 33)).alloc (.cells #[.int .i64 0, .int .i64 0, .int .i64 0] 110)) ((hH.next hb0 (Nat.le_refl _) (Nat.le_refl _)).mono (by omega)) ((hS.next hb0 (Nat.le_refl _) (Nat.le_refl _)).mono (by omega)) (hT.next hb0) hlm slm)
  rw [calE_yes hcal] at HCK
  have HT := Lib.hid hT
  have HZ := Lib.hid hz
  have HB0 := Lib.hid hb0
  have HSZ := Lib.hid hsz
  have HD := Lib.hid hd
  clear hd
  clear hH hS hT hz hb0 hsz e1 hlm slm hcal
  go_enter Tryd.func48, Tryd.ntmps48
  go_wp2_with fail
  refine HCK.out.mono ?_
  rintro e w1 ⟨rfl, hB1⟩
  have hz1 := (hB1.block (w.heap.size + 1) (by rw [HSZ.out]; omega)).trans HZ.out
  have hb1 := HB0.out.trans (hB1.mono HB0.out.size)
  have HOF := Lib.hid (of_is x y m d HD.out w1 (HT.out.next hb1))
  have hw1 : w.heap.size + 1 < w1.heap.size := by have := hB1.size; rw [HSZ.out] at this; omega
  have HF := Lib.hid hz1
  have HB1 := Lib.hid hb1
  clear hB1 hz1 hb1
  go_wp2_with fail
  refine HOF.out.mono ?_
  rintro e w2 ⟨rfl, hB2⟩
  have hz2 := (hB2.block (w.heap.size + 1) hw1).trans HF.out
  obtain ⟨a0, a1, a2⟩ := hcells3 hz2
  obtain ⟨f0, f1, f2⟩ := frozen3 hz2
  have HF2 := Lib.hid hz2
  have HB2 := Lib.hid (HB1.out.trans (hB2.mono HB1.out.size))
  clear hB2 hz2
  go_wp2
  refine bodyPost_ret (results_dateOf rfl rfl (set3 HF2.out y m d)) rfl ?_
  exact ⟨rfl, set3_below HB2.out (by omega) y m d⟩
theorem holidaysIn_in (n : Nat) (ha : Option Addr) (hl hc : Nat) (sa : Option Addr) (sl sc : Nat) (y : Int) (w : World) :
    CallsIn Fence.wide n Tryd.prog 73 #[calV ha hl hc sa sl sc, .int .i64 y] w fun e w' => e = .returned (.func (.func 89) #[] #[.pointer (some ⟨w.heap.size, 0, none⟩), .pointer (some ⟨w.heap.size + 1, 0, none⟩)]) ∧ w' = (w.alloc (.cells #[.slice ha hl hc, .slice sa sl sc] 33)).alloc (.cells #[.int .i64 y] 3) := by
  refine callsIn_of_wp Tryd.func73 rfl trivial ?_ rfl
  simp only [Tryd.ntmps73, List.size_toArray, List.length_cons, List.length_nil, Nat.reduceAdd, Nat.reduceSub, Array.replicate_succ, Array.replicate_zero, List.push_toArray, List.append_toArray, List.nil_append, List.cons_append]
  gi_wp2
  go_ret
  exact ⟨rfl, rfl⟩
theorem hol_stops (n : Nat) (hn : 1 ≤ n) (Bc By n₀ : Nat) (ha : Option Addr) (hl hc : Nat) (sa : Option Addr) (sl sc : Nat) (H : Nat → Ho) (y : Int) (hlm : hl ≤ 100) (hho : ∀ i, i < hl → HoIs (H i)) (hy0 : 1970 ≤ y) (hy1 : y ≤ 9999) (hBc : Bc < n₀) (hBy : By < n₀) (h0n : 2 < n₀)
    (w0 : World) (hn0 : n₀ ≤ w0.heap.size) (hC : w0.heap[Bc]? = some (.cells #[.slice ha hl hc, .slice sa sl sc] 33 (0, 0))) (hYr : w0.heap[By]? = some (.cells #[.int .i64 y] 3 (0, 0))) (hH : HosAt n₀ w0 ha hl H) (hT : Tabs w0) :
    SeqStopsK Fence.wide n Tryd.prog 89 #[.pointer (some ⟨Bc, 0, none⟩), .pointer (some ⟨By, 0, none⟩)] encE (Below n₀) (fun xs => xs = hdL H y hl) (fun pre => pre <+: hdL H y hl) (hdL H y hl).length w0 := by
  intro l J Jx W hW hJ hJx hY h0
  exact hol1_in n hn l Bc By n₀ ha hl hc sa sl sc H y hlm hho hy0 hy1 hBc hBy h0n J Jx hY W hJ (Nat.le_trans hn0 hW.size) ((hW.block Bc (by omega)).trans hC) ((hW.block By (by omega)).trans hYr) (hH.next hW hn0 (Nat.le_refl _)) (hT.next hW) h0
end Go.Proofs.YtbffmobjiiicoaaDoor.H8
end
section
/- The contract of days.Is. -/
set_option linter.unusedVariables false
set_option linter.unusedSimpArgs false
namespace Go.Proofs.YtbffmobjiiicoaaDoor.H8
open Go.RowKit Go.Shelf
attribute [local go_sem] Oper.semAt_some
set_option maxRecDepth 100000 in
set_option maxHeartbeats 2000000 in
theorem is_bad (ha : Option Addr) (hl hc : Nat) (sa : Option Addr) (sl sc : Nat) (H : Nat → Ho) (S : Nat → Se) (x : Int) (hcal : ¬ CalIs H hl S sl) (w : World) (hH : HosAt w.heap.size w ha hl H) (hS : SeasAt w.heap.size w sa sl S) (hT : Tabs w) (hlm : hl ≤ maxLen) (slm : sl ≤ maxLen) :
    Calls Tryd.prog 52 #[calV ha hl hc sa sl sc, .int .i64 x] w fun e w' => e = .returned (.tuple #[.bool false, .int .i64 80]) ∧ Below w.heap.size w w' := by
  have hb0 := ((Below.refl _ w).alloc (Nat.le_refl _) (.cells #[.slice ha hl hc, .slice sa sl sc] 33)).alloc (by simp) (.cells #[.int .i64 x] 3)
  have e1 : w.heap.size + 1 = (w.alloc (.cells #[.slice ha hl hc, .slice sa sl sc] 33)).heap.size := by rw [World.size_alloc]
  have hzc : ((w.alloc (.cells #[.slice ha hl hc, .slice sa sl sc] 33)).alloc (.cells #[.int .i64 x] 3)).heap[w.heap.size]? = some (.cells #[.slice ha hl hc, .slice sa sl sc] 33) := heap_old (heap_alloc_new w _) _
  have hzx : ((w.alloc (.cells #[.slice ha hl hc, .slice sa sl sc] 33)).alloc (.cells #[.int .i64 x] 3)).heap[w.heap.size + 1]? = some (.cells #[.int .i64 x] 3) := by rw [e1]; exact heap_alloc_new _ _
  have hsz : ((w.alloc (.cells #[.slice ha hl hc, .slice sa sl sc] 33)).alloc (.cells #[.int .i64 x] 3)).heap.size = w.heap.size + 2 := by simp [World.size_alloc]
  have HD := Lib.hid (dateOf_bad ha hl hc sa sl sc H S x hcal ((w.alloc (.cells #[.slice ha hl hc, .slice sa sl sc] 33)).alloc (.cells #[.int .i64 x] 3)) ((hH.next hb0 (Nat.le_refl _) (Nat.le_refl _)).mono (by omega)) ((hS.next hb0 (Nat.le_refl _) (Nat.le_refl _)).mono (by omega)) (hT.next hb0) hlm slm)
  have HB0 := Lib.hid hb0
  clear hb0 hzc hzx hsz e1 hH hS hT hlm slm
  refine (callsIn_wide (n := 4)).1 ?_
  refine callsIn_of_wp_marks Tryd.func52 rfl trivial ?_ rfl
  simp only [Tryd.ntmps52, List.size_toArray, List.length_cons, List.length_nil, Nat.reduceAdd, Nat.reduceSub, Array.replicate_succ, Array.replicate_zero, List.push_toArray, List.append_toArray, List.nil_append, List.cons_append]
  gi_wp2
  refine wpIn_scope_straight (wpIn_seq ?_)
  gi_wp2_with (refine ⟨trivial, ?_⟩; gi_at_call 48; refine (callsIn_wide.2 HD.out).mono ?_; rintro e w1 ⟨rfl, hB1⟩; have HB1 := Lib.hid hB1; clear hB1)
  rw [Exit.noGoto_ret]
  have hbf := HB0.out.trans (HB1.out.mono HB0.out.size)
  exact ⟨_, results_tmp2 rfl _ _ _, rfl, hbf.alloc hbf.size _⟩
set_option maxRecDepth 100000 in
set_option maxHeartbeats 2000000 in
theorem is_no (ha : Option Addr) (hl hc : Nat) (sa : Option Addr) (sl sc : Nat) (H : Nat → Ho) (S : Nat → Se) (x : Int) (hcal : CalIs H hl S sl) (hd : ¬ (0 ≤ x ∧ x ≤ 2932896)) (w : World) (hH : HosAt w.heap.size w ha hl H) (hS : SeasAt w.heap.size w sa sl S) (hT : Tabs w) (hlm : hl ≤ maxLen) (slm : sl ≤ maxLen) :
    Calls Tryd.prog 52 #[calV ha hl hc sa sl sc, .int .i64 x] w fun e w' => e = .returned (.tuple #[.bool false, .int .i64 60]) ∧ Below w.heap.size w w' := by
  have hb0 := ((Below.refl _ w).alloc (Nat.le_refl _) (.cells #[.slice ha hl hc, .slice sa sl sc] 33)).alloc (by simp) (.cells #[.int .i64 x] 3)
  have e1 : w.heap.size + 1 = (w.alloc (.cells #[.slice ha hl hc, .slice sa sl sc] 33)).heap.size := by rw [World.size_alloc]
  have hzc : ((w.alloc (.cells #[.slice ha hl hc, .slice sa sl sc] 33)).alloc (.cells #[.int .i64 x] 3)).heap[w.heap.size]? = some (.cells #[.slice ha hl hc, .slice sa sl sc] 33) := heap_old (heap_alloc_new w _) _
  have hzx : ((w.alloc (.cells #[.slice ha hl hc, .slice sa sl sc] 33)).alloc (.cells #[.int .i64 x] 3)).heap[w.heap.size + 1]? = some (.cells #[.int .i64 x] 3) := by rw [e1]; exact heap_alloc_new _ _
  have hsz : ((w.alloc (.cells #[.slice ha hl hc, .slice sa sl sc] 33)).alloc (.cells #[.int .i64 x] 3)).heap.size = w.heap.size + 2 := by simp [World.size_alloc]
  have HD := Lib.hid (dateOf_no ha hl hc sa sl sc H S x hcal hd ((w.alloc (.cells #[.slice ha hl hc, .slice sa sl sc] 33)).alloc (.cells #[.int .i64 x] 3)) ((hH.next hb0 (Nat.le_refl _) (Nat.le_refl _)).mono (by omega)) ((hS.next hb0 (Nat.le_refl _) (Nat.le_refl _)).mono (by omega)) (hT.next hb0) hlm slm)
  have HB0 := Lib.hid hb0
  clear hb0 hzc hzx hsz e1 hH hS hT hlm slm
  refine (callsIn_wide (n := 4)).1 ?_
  refine callsIn_of_wp_marks Tryd.func52 rfl trivial ?_ rfl
  simp only [Tryd.ntmps52, List.size_toArray, List.length_cons, List.length_nil, Nat.reduceAdd, Nat.reduceSub, Array.replicate_succ, Array.replicate_zero, List.push_toArray, List.append_toArray, List.nil_append, List.cons_append]
  gi_wp2
  refine wpIn_scope_straight (wpIn_seq ?_)
  gi_wp2_with (refine ⟨trivial, ?_⟩; gi_at_call 48; refine (callsIn_wide.2 HD.out).mono ?_; rintro e w1 ⟨rfl, hB1⟩; have HB1 := Lib.hid hB1; clear hB1)
  rw [Exit.noGoto_ret]
  have hbf := HB0.out.trans (HB1.out.mono HB0.out.size)
  exact ⟨_, results_tmp2 rfl _ _ _, rfl, hbf.alloc hbf.size _⟩
set_option maxRecDepth 100000 in
set_option maxHeartbeats 4000000 in
theorem is_yes (ha : Option Addr) (hl hc : Nat) (sa : Option Addr) (sl sc : Nat) (H : Nat → Ho) (S : Nat → Se) (x : Int) (hcal : CalIs H hl S sl) (y m d : Int) (hd : IsDate x y m d) (w : World) (hH : HosAt w.heap.size w ha hl H) (hS : SeasAt w.heap.size w sa sl S) (hT : Tabs w) (hlm : hl ≤ maxLen) (slm : sl ≤ maxLen) :
    Calls Tryd.prog 52 #[calV ha hl hc sa sl sc, .int .i64 x] w fun e w' => e = .returned (.tuple #[.bool (decide (x ∈ hds H y hl)), .int .i64 0]) ∧ Below w.heap.size w w' := by
  have hb0 := ((Below.refl _ w).alloc (Nat.le_refl _) (.cells #[.slice ha hl hc, .slice sa sl sc] 33)).alloc (by simp) (.cells #[.int .i64 x] 3)
  have e1 : w.heap.size + 1 = (w.alloc (.cells #[.slice ha hl hc, .slice sa sl sc] 33)).heap.size := by rw [World.size_alloc]
  have hzc : ((w.alloc (.cells #[.slice ha hl hc, .slice sa sl sc] 33)).alloc (.cells #[.int .i64 x] 3)).heap[w.heap.size]? = some (.cells #[.slice ha hl hc, .slice sa sl sc] 33) := heap_old (heap_alloc_new w _) _
  have hzx : ((w.alloc (.cells #[.slice ha hl hc, .slice sa sl sc] 33)).alloc (.cells #[.int .i64 x] 3)).heap[w.heap.size + 1]? = some (.cells #[.int .i64 x] 3) := by rw [e1]; exact heap_alloc_new _ _
  have hsz : ((w.alloc (.cells #[.slice ha hl hc, .slice sa sl sc] 33)).alloc (.cells #[.int .i64 x] 3)).heap.size = w.heap.size + 2 := by simp [World.size_alloc]
  have HD := Lib.hid (dateOf_yes ha hl hc sa sl sc H S x hcal y m d hd ((w.alloc (.cells #[.slice ha hl hc, .slice sa sl sc] 33)).alloc (.cells #[.int .i64 x] 3)) ((hH.next hb0 (Nat.le_refl _) (Nat.le_refl _)).mono (by omega)) ((hS.next hb0 (Nat.le_refl _) (Nat.le_refl _)).mono (by omega)) (hT.next hb0) hlm slm)
  have HB0 := Lib.hid hb0
  have HZC := Lib.hid hzc
  have HZX := Lib.hid hzx
  have HSZ := Lib.hid hsz
  have HH := Lib.hid hH
  have HT := Lib.hid hT
  have HCAL := Lib.hid hcal
  have hy0 := hd.1.1
  have hy1 := hd.1.2.1
  clear hb0 hzc hzx hsz e1 hH hS hT hlm slm hcal hd
  refine (callsIn_wide (n := 4)).1 ?_
  refine callsIn_of_wp_marks Tryd.func52 rfl trivial ?_ rfl
  simp only [Tryd.ntmps52, List.size_toArray, List.length_cons, List.length_nil, Nat.reduceAdd, Nat.reduceSub, Array.replicate_succ, Array.replicate_zero, List.push_toArray, List.append_toArray, List.nil_append, List.cons_append]
  gi_wp2
  refine wpIn_scope_straight (wpIn_seq ?_)
  gi_wp2_with (refine ⟨trivial, ?_⟩; gi_at_call 48; refine (callsIn_wide.2 HD.out).mono ?_; rintro e w1 ⟨rfl, hB1⟩; have HB1 := Lib.hid hB1; clear hB1)
  have hw1 : w.heap.size + 2 ≤ w1.heap.size := by have := HB1.out.size; rw [HSZ.out] at this; exact this
  have hb1 := HB0.out.trans (HB1.out.mono HB0.out.size)
  have zc1 := (HB1.out.block w.heap.size (by rw [HSZ.out]; omega)).trans HZC.out
  have zx1 := (HB1.out.block (w.heap.size + 1) (by rw [HSZ.out]; omega)).trans HZX.out
  have e2 : w1.heap.size + 1 = (w1.alloc (.cells #[.int .i64 y, .int .i64 m, .int .i64 d] 110)).heap.size := by rw [World.size_alloc]
  obtain ⟨X, hX⟩ : ∃ X, (w1.alloc (.cells #[.int .i64 y, .int .i64 m, .int .i64 d] 110)).alloc (.cells #[.bool false] 4) = X := ⟨_, rfl⟩
  have xzc : X.heap[w.heap.size]? = some (.cells #[.slice ha hl hc, .slice sa sl sc] 33) := by rw [← hX]; exact heap_old (heap_old zc1 _) _
  have xzx : X.heap[w.heap.size + 1]? = some (.cells #[.int .i64 x] 3) := by rw [← hX]; exact heap_old (heap_old zx1 _) _
  have xz6 : X.heap[w1.heap.size]? = some (.cells #[.int .i64 y, .int .i64 m, .int .i64 d] 110) := by rw [← hX]; exact heap_old (heap_alloc_new w1 _) _
  have xz8 : X.heap[w1.heap.size + 1]? = some (.cells #[.bool false] 4) := by rw [← hX, e2]; exact heap_alloc_new _ _
  have xsz : X.heap.size = w1.heap.size + 2 := by rw [← hX]; simp [World.size_alloc]
  have xb : Below w.heap.size w X := by rw [← hX]; exact (hb1.alloc hb1.size _).alloc (by have := hb1.size; simp; omega) _
  rw [hX]
  have XZX := Lib.hid xzx
  have XZ8 := Lib.hid xz8
  have XSZ := Lib.hid xsz
  have XB := Lib.hid xb
  have xc0 : X.cell? ⟨w.heap.size, 0, none⟩ = some (.slice ha hl hc) := cell_of_row _ _ 0 _ _ _ xzc
  have xc1 : X.cell? ⟨w.heap.size, 1, none⟩ = some (.slice sa sl sc) := cell_of_row _ _ 1 _ _ _ xzc
  have x60 : X.cell? ⟨w1.heap.size, 0, none⟩ = some (.int .i64 y) := cell_of_row _ _ 0 _ _ _ xz6
  clear xzx xz8 xsz xb hX e2 zc1 zx1 hb1 xzc xz6 HZC HZX HB0 HD HB1
  refine wpIn_label ?_
  gi_wp2_with (refine ⟨trivial, ?_⟩; gi_at_call 73; refine (holidaysIn_in _ _ _ _ _ _ _ _ _).mono ?_; rintro e w' ⟨rfl, rfl⟩)
  have xe : X.heap.size + 1 = (X.alloc (.cells #[.slice ha hl hc, .slice sa sl sc] 33)).heap.size := by rw [World.size_alloc]
  have hC2 : ((X.alloc (.cells #[.slice ha hl hc, .slice sa sl sc] 33)).alloc (.cells #[.int .i64 y] 3)).heap[X.heap.size]? = some (.cells #[.slice ha hl hc, .slice sa sl sc] 33) := heap_old (heap_alloc_new X _) _
  have hY2 : ((X.alloc (.cells #[.slice ha hl hc, .slice sa sl sc] 33)).alloc (.cells #[.int .i64 y] 3)).heap[X.heap.size + 1]? = some (.cells #[.int .i64 y] 3) := by rw [xe]; exact heap_alloc_new _ _
  have hs2 : ((X.alloc (.cells #[.slice ha hl hc, .slice sa sl sc] 33)).alloc (.cells #[.int .i64 y] 3)).heap.size = X.heap.size + 2 := by simp [World.size_alloc]
  have hbx2 : Below w.heap.size w ((X.alloc (.cells #[.slice ha hl hc, .slice sa sl sc] 33)).alloc (.cells #[.int .i64 y] 3)) := (XB.out.alloc XB.out.size _).alloc (by have := XB.out.size; simp; omega) _
  have hx82 := heap_old (heap_old XZ8.out (.cells #[.slice ha hl hc, .slice sa sl sc] 33)) (.cells #[.int .i64 y] 3)
  have hxx2 := heap_old (heap_old XZX.out (.cells #[.slice ha hl hc, .slice sa sl sc] 33)) (.cells #[.int .i64 y] 3)
  obtain ⟨X2, hX2⟩ : ∃ X2, (X.alloc (.cells #[.slice ha hl hc, .slice sa sl sc] 33)).alloc (.cells #[.int .i64 y] 3) = X2 := ⟨_, rfl⟩
  rw [hX2] at hC2 hY2 hs2 hbx2 hx82 hxx2 ⊢
  have hH2 : HosAt X2.heap.size X2 ha hl H := (HH.out.next hbx2 (Nat.le_refl _) (Nat.le_refl _)).mono hbx2.size
  have hT2 : Tabs X2 := HT.out.next hbx2
  have hT20 := hT2.lt
  have hbs := hbx2.size
  clear xe hX2 xc0 xc1 x60 XB XZ8 XZX HH
  refine wpIn_rangeFunc_ownG rfl (by omega) (gf := 89) (lb := #[.pointer (some ⟨X.heap.size, 0, none⟩), .pointer (some ⟨X.heap.size + 1, 0, none⟩)]) rfl trivial (enters_of Tryd.func89 (by kernel_rfl) rfl)
    (hol_stops (4 - 1) (by omega) X.heap.size (X.heap.size + 1) X2.heap.size ha hl hc sa sl sc H y HCAL.out.1 HCAL.out.2.2.1 hy0 hy1 (by omega) (by omega) hT20 X2 (Nat.le_refl _) hC2 hY2 hH2 hT2) (fun h k => Below.trans h k) (belowK_b (Nat.le_refl _)) (Below.refl _ _) (fun _ => rfl)
    (fun pre W => (W.heap[w1.heap.size + 1]? = some (.cells #[.bool false] 4) ∧ W.heap[w.heap.size + 1]? = some (.cells #[.int .i64 x] 3) ∧ (∀ z ∈ pre, z.1 ≠ x)) ∧ Below w.heap.size w W)
    (fun c pre W => ((∃ z ∈ pre, z.1 = x) ∧ W.heap[w1.heap.size + 1]? = some (.cells #[.bool true] 4) ∧ c = .exit 0) ∧ Below w.heap.size w W)
    (OwnFrom.and (Own.from (fun s A B row hs hg hr => ⟨cells_kept hs.1 hg hr, cells_kept hs.2.1 hg hr, hs.2.2⟩) _) (ownFrom_below (Nat.le_refl _) (by omega)))
    (fun c => OwnFrom.and (Own.from (fun s A B row hs hg hr => ⟨hs.1, cells_kept hs.2.1 hg hr, hs.2.2⟩) _) (ownFrom_below (Nat.le_refl _) (by omega)))
    ⟨⟨hx82, hxx2, by simp⟩, hbx2⟩
    (fun z => { tmps := #[calV ha hl hc sa sl sc, .int .i64 x, .pointer (some ⟨w.heap.size, 0, none⟩), .pointer (some ⟨w.heap.size + 1, 0, none⟩), .bool false, .int .i64 0, .pointer (some ⟨w1.heap.size, 0, none⟩), .int .i64 0, .pointer (some ⟨w1.heap.size + 1, 0, none⟩), .int .i64 z.1, .tuple #[dateV y m d, .int .i64 0], .agg #[.slice ha hl hc, .slice sa sl sc], .int .i64 x, .tuple #[dateV y m d, .int .i64 0], dateV y m d, .int .i64 0, .int .i64 0, .bool false, undef, .agg #[.slice ha hl hc, .slice sa sl sc], .pointer (some ⟨w1.heap.size, 0, none⟩), .int .i64 y, .func (.func 89) #[] #[.pointer (some ⟨X.heap.size, 0, none⟩), .pointer (some ⟨X.heap.size + 1, 0, none⟩)], .int .i64 z.1, undef, undef, undef, undef], defers := [] }) ?assign ?body ?done ?stop
  case assign =>
    intro l z W K hK
    unfold encE
    gi_wp2
    exact hK
  case body =>
    rintro l pre z W ⟨⟨h8, hx, hall⟩, hB⟩ hlt
    have c8 : W.cell? ⟨w1.heap.size + 1, 0, none⟩ = some (.bool false) := cell_of_row _ _ 0 _ _ _ h8
    have f8 := frozen_of_row W (w1.heap.size + 1) 0 _ _ h8
    have cx : W.cell? ⟨w.heap.size + 1, 0, none⟩ = some (.int .i64 x) := cell_of_row _ _ 0 _ _ _ hx
    have H8 := Lib.hid h8
    have HX := Lib.hid hx
    have HA := Lib.hid hall
    have HB := Lib.hid hB
    clear h8 hx hall hB
    obtain ⟨zv, hzb⟩ := z
    by_cases hz : zv = x
    · have g : (zv == x) = true := by simp [hz]
      gi_wp2
      exact ⟨(KeepsOthers.setCell _ _ _).from _, ⟨⟨⟨zv, hzb⟩, by simp, hz⟩, heap_setCell_same W (w1.heap.size + 1) 0 _ _ (.bool true) H8.out, rfl⟩, HB.out.setCell (p := ⟨w1.heap.size + 1, 0, none⟩) (by show w.heap.size ≤ w1.heap.size + 1; omega) _⟩
    · have g : (zv == x) = false := by simp [hz]
      gi_wp2
      exact ⟨KeepsFrom.refl _ _, Below.refl _ _, ⟨H8.out, HX.out, fun q hq => by
        rcases List.mem_append.1 hq with h | h
        · exact HA.out q h
        · rw [List.mem_singleton.1 h]; exact hz⟩, HB.out⟩
  case done =>
    rintro DD ys W hD rfl ⟨⟨h8, hx, hall⟩, hB⟩ hK
    have c8 : W.cell? ⟨w1.heap.size + 1, 0, none⟩ = some (.bool false) := cell_of_row _ _ 0 _ _ _ h8
    have hdec : decide (x ∈ hds H y hl) = false := decide_eq_false (fun hm => by
      rw [← hdL_map hy0 hy1 hl] at hm
      obtain ⟨z, hz1, hz2⟩ := List.mem_map.1 hm
      exact hall z hz1 hz2)
    have HD := Lib.hid hdec
    have HB := Lib.hid hB
    have HK := Lib.hid hK
    clear h8 hx hall hB hK hdec
    gi_wp2
    rw [Exit.noGoto_ret]
    refine ⟨by simp, .inl ⟨_, _, rfl, run_takeDeferred HK.out, ?_⟩⟩
    exact ⟨_, results_tmp2 rfl _ _ _, by rw [HD.out]; rfl, HB.out.trans (belowK_b (w := w) (Nat.le_refl _) _ DD _ _ (by omega) HK.out rfl rfl)⟩
  case stop =>
    rintro DD c pre W hD hpre ⟨⟨⟨z, hz1, hz2⟩, h8, rfl⟩, hB⟩ hK
    have c8 : W.cell? ⟨w1.heap.size + 1, 0, none⟩ = some (.bool true) := cell_of_row _ _ 0 _ _ _ h8
    have hdec : decide (x ∈ hds H y hl) = true := decide_eq_true (by
      rw [← hdL_map hy0 hy1 hl, ← hz2]
      exact List.mem_map_of_mem (hpre.subset hz1))
    have HD := Lib.hid hdec
    have HB := Lib.hid hB
    have HK := Lib.hid hK
    clear h8 hz1 hz2 hpre hB hK hdec
    gi_wp2
    rw [Exit.noGoto_ret]
    refine ⟨by simp, .inl ⟨_, _, rfl, run_takeDeferred HK.out, ?_⟩⟩
    exact ⟨_, results_tmp2 rfl _ _ _, by rw [HD.out]; rfl, HB.out.trans (belowK_b (w := w) (Nat.le_refl _) _ DD _ _ (by omega) HK.out rfl rfl)⟩
end Go.Proofs.YtbffmobjiiicoaaDoor.H8
end
section
/- The contracts of days.Kind and days.SeasonOf. -/
set_option linter.unusedVariables false
set_option linter.unusedSimpArgs false
namespace Go.Proofs.YtbffmobjiiicoaaDoor.H8
open Go.RowKit Go.Shelf
set_option maxRecDepth 100000 in
set_option maxHeartbeats 2000000 in
theorem kind_bad (ha : Option Addr) (hl hc : Nat) (sa : Option Addr) (sl sc : Nat) (H : Nat → Ho) (S : Nat → Se) (x : Int) (hcal : ¬ CalIs H hl S sl) (w : World) (hH : HosAt w.heap.size w ha hl H) (hS : SeasAt w.heap.size w sa sl S) (hT : Tabs w) (hlm : hl ≤ maxLen) (slm : sl ≤ maxLen) :
    Calls Tryd.prog 25 #[calV ha hl hc sa sl sc, .int .i64 x] w fun e w' => e = .returned (.tuple #[.int .i64 0, .int .i64 80]) ∧ Below w.heap.size w w' := by
  have hb0 := (Below.refl _ w).alloc (Nat.le_refl _) (.cells #[.slice ha hl hc, .slice sa sl sc] 33)
  have hH0 := (hH.next hb0 (Nat.le_refl _) (Nat.le_refl _)).mono hb0.size
  have hS0 := (hS.next hb0 (Nat.le_refl _) (Nat.le_refl _)).mono hb0.size
  have hzc := heap_alloc_new w (.cells #[.slice ha hl hc, .slice sa sl sc] 33)
  have HD := Lib.hid (is_bad ha hl hc sa sl sc H S x hcal _ hH0 hS0 (hT.next hb0) hlm slm)
  have HB0 := Lib.hid hb0
  clear hb0 hH0 hS0 hzc hH hS hT hlm slm
  go_enter Tryd.func25, Tryd.ntmps25
  go_wp2_with (first
    | (go_at_call 52; refine HD.out.mono ?_; rintro e w1 ⟨rfl, hB1⟩; have HB1 := Lib.hid hB1; clear hB1)
    | (go_at_call 53; refine (kindOf_any x _ (by omega) (by omega) _).mono ?_; rintro e w2 ⟨rfl, rfl⟩))
  go_ret2
  exact ⟨rfl, HB0.out.trans (HB1.out.mono HB0.out.size)⟩
set_option maxRecDepth 100000 in
set_option maxHeartbeats 2000000 in
theorem kind_no (ha : Option Addr) (hl hc : Nat) (sa : Option Addr) (sl sc : Nat) (H : Nat → Ho) (S : Nat → Se) (x : Int) (hcal : CalIs H hl S sl) (hd : ¬ (0 ≤ x ∧ x ≤ 2932896)) (w : World) (hH : HosAt w.heap.size w ha hl H) (hS : SeasAt w.heap.size w sa sl S) (hT : Tabs w) (hlm : hl ≤ maxLen) (slm : sl ≤ maxLen) :
    Calls Tryd.prog 25 #[calV ha hl hc sa sl sc, .int .i64 x] w fun e w' => e = .returned (.tuple #[.int .i64 0, .int .i64 60]) ∧ Below w.heap.size w w' := by
  have hb0 := (Below.refl _ w).alloc (Nat.le_refl _) (.cells #[.slice ha hl hc, .slice sa sl sc] 33)
  have hH0 := (hH.next hb0 (Nat.le_refl _) (Nat.le_refl _)).mono hb0.size
  have hS0 := (hS.next hb0 (Nat.le_refl _) (Nat.le_refl _)).mono hb0.size
  have hzc := heap_alloc_new w (.cells #[.slice ha hl hc, .slice sa sl sc] 33)
  have HD := Lib.hid (is_no ha hl hc sa sl sc H S x hcal hd _ hH0 hS0 (hT.next hb0) hlm slm)
  have HB0 := Lib.hid hb0
  clear hb0 hH0 hS0 hzc hH hS hT hlm slm
  go_enter Tryd.func25, Tryd.ntmps25
  go_wp2_with (first
    | (go_at_call 52; refine HD.out.mono ?_; rintro e w1 ⟨rfl, hB1⟩; have HB1 := Lib.hid hB1; clear hB1)
    | (go_at_call 53; refine (kindOf_any x _ (by omega) (by omega) _).mono ?_; rintro e w2 ⟨rfl, rfl⟩))
  go_ret2
  exact ⟨rfl, HB0.out.trans (HB1.out.mono HB0.out.size)⟩
set_option maxRecDepth 100000 in
set_option maxHeartbeats 2000000 in
theorem kind_yes (ha : Option Addr) (hl hc : Nat) (sa : Option Addr) (sl sc : Nat) (H : Nat → Ho) (S : Nat → Se) (x : Int) (hcal : CalIs H hl S sl) (y m d : Int) (hd : IsDate x y m d) (w : World) (hH : HosAt w.heap.size w ha hl H) (hS : SeasAt w.heap.size w sa sl S) (hT : Tabs w) (hlm : hl ≤ maxLen) (slm : sl ≤ maxLen) :
    Calls Tryd.prog 25 #[calV ha hl hc sa sl sc, .int .i64 x] w fun e w' => e = .returned (.tuple #[.int .i64 (kindB x (decide (x ∈ hds H y hl))), .int .i64 0]) ∧ Below w.heap.size w w' := by
  have hb0 := (Below.refl _ w).alloc (Nat.le_refl _) (.cells #[.slice ha hl hc, .slice sa sl sc] 33)
  have hH0 := (hH.next hb0 (Nat.le_refl _) (Nat.le_refl _)).mono hb0.size
  have hS0 := (hS.next hb0 (Nat.le_refl _) (Nat.le_refl _)).mono hb0.size
  have hzc := heap_alloc_new w (.cells #[.slice ha hl hc, .slice sa sl sc] 33)
  have HD := Lib.hid (is_yes ha hl hc sa sl sc H S x hcal y m d hd _ hH0 hS0 (hT.next hb0) hlm slm)
  have HB0 := Lib.hid hb0
  have hx := day_bounds hd.1
  rw [← hd.2] at hx
  obtain ⟨hx0, hx1⟩ := hx
  obtain ⟨f, hf⟩ : ∃ f, f = decide (x ∈ hds H y hl) := ⟨_, rfl⟩
  rw [← hf] at HD ⊢
  clear hcal hd hf
  clear hb0 hH0 hS0 hzc hH hS hT hlm slm
  go_enter Tryd.func25, Tryd.ntmps25
  go_wp2_with (first
    | (go_at_call 52; refine HD.out.mono ?_; rintro e w1 ⟨rfl, hB1⟩; have HB1 := Lib.hid hB1; clear hB1)
    | (go_at_call 53; refine (kindOf_any x _ hx0 hx1 _).mono ?_; rintro e w2 ⟨rfl, rfl⟩))
  go_ret2
  exact ⟨rfl, HB0.out.trans (HB1.out.mono HB0.out.size)⟩
set_option maxRecDepth 100000 in
set_option maxHeartbeats 2000000 in
theorem season_bad (ha : Option Addr) (hl hc : Nat) (sa : Option Addr) (sl sc : Nat) (H : Nat → Ho) (S : Nat → Se) (x : Int) (hcal : ¬ CalIs H hl S sl) (w : World) (hH : HosAt w.heap.size w ha hl H) (hS : SeasAt w.heap.size w sa sl S) (hT : Tabs w) (hlm : hl ≤ maxLen) (slm : sl ≤ maxLen) :
    Calls Tryd.prog 24 #[calV ha hl hc sa sl sc, .int .i64 x] w fun e w' => e = .returned (.tuple #[.int .i64 0, .int .i64 80]) ∧ Below w.heap.size w w' := by
  have hb0 := (Below.refl _ w).alloc (Nat.le_refl _) (.cells #[.slice ha hl hc, .slice sa sl sc] 33)
  have hH0 := (hH.next hb0 (Nat.le_refl _) (Nat.le_refl _)).mono hb0.size
  have hS0 := (hS.next hb0 (Nat.le_refl _) (Nat.le_refl _)).mono hb0.size
  have hzc := heap_alloc_new w (.cells #[.slice ha hl hc, .slice sa sl sc] 33)
  have HD := Lib.hid (dateOf_bad ha hl hc sa sl sc H S x hcal _ hH0 hS0 (hT.next hb0) hlm slm)
  have HB0 := Lib.hid hb0
  clear hb0 hH0 hS0 hzc hH hS hT hlm slm
  go_enter Tryd.func24, Tryd.ntmps24
  go_wp2_with (go_at_call 48; refine HD.out.mono ?_; rintro e w1 ⟨rfl, hB1⟩; have HB1 := Lib.hid hB1; clear hB1)
  go_ret2
  have hbf := HB0.out.trans (HB1.out.mono HB0.out.size)
  exact ⟨rfl, hbf.alloc hbf.size _⟩
set_option maxRecDepth 100000 in
set_option maxHeartbeats 2000000 in
theorem season_no (ha : Option Addr) (hl hc : Nat) (sa : Option Addr) (sl sc : Nat) (H : Nat → Ho) (S : Nat → Se) (x : Int) (hcal : CalIs H hl S sl) (hd : ¬ (0 ≤ x ∧ x ≤ 2932896)) (w : World) (hH : HosAt w.heap.size w ha hl H) (hS : SeasAt w.heap.size w sa sl S) (hT : Tabs w) (hlm : hl ≤ maxLen) (slm : sl ≤ maxLen) :
    Calls Tryd.prog 24 #[calV ha hl hc sa sl sc, .int .i64 x] w fun e w' => e = .returned (.tuple #[.int .i64 0, .int .i64 60]) ∧ Below w.heap.size w w' := by
  have hb0 := (Below.refl _ w).alloc (Nat.le_refl _) (.cells #[.slice ha hl hc, .slice sa sl sc] 33)
  have hH0 := (hH.next hb0 (Nat.le_refl _) (Nat.le_refl _)).mono hb0.size
  have hS0 := (hS.next hb0 (Nat.le_refl _) (Nat.le_refl _)).mono hb0.size
  have hzc := heap_alloc_new w (.cells #[.slice ha hl hc, .slice sa sl sc] 33)
  have HD := Lib.hid (dateOf_no ha hl hc sa sl sc H S x hcal hd _ hH0 hS0 (hT.next hb0) hlm slm)
  have HB0 := Lib.hid hb0
  clear hb0 hH0 hS0 hzc hH hS hT hlm slm
  go_enter Tryd.func24, Tryd.ntmps24
  go_wp2_with (go_at_call 48; refine HD.out.mono ?_; rintro e w1 ⟨rfl, hB1⟩; have HB1 := Lib.hid hB1; clear hB1)
  go_ret2
  have hbf := HB0.out.trans (HB1.out.mono HB0.out.size)
  exact ⟨rfl, hbf.alloc hbf.size _⟩
set_option maxRecDepth 100000 in
set_option maxHeartbeats 4000000 in
theorem season_yes (ha : Option Addr) (hl hc : Nat) (sa : Option Addr) (sl sc : Nat) (H : Nat → Ho) (S : Nat → Se) (x : Int) (hcal : CalIs H hl S sl) (y m d : Int) (hd : IsDate x y m d) (w : World) (hH : HosAt w.heap.size w ha hl H) (hS : SeasAt w.heap.size w sa sl S) (hT : Tabs w) (hlm : hl ≤ maxLen) (slm : sl ≤ maxLen) :
    Calls Tryd.prog 24 #[calV ha hl hc sa sl sc, .int .i64 x] w fun e w' => (∃ r : Int, SeaIs S sl (bgn m d) r ∧ e = .returned (.tuple #[.int .i64 r, .int .i64 0])) ∧ Below w.heap.size w w' := by
  have hb0 := (Below.refl _ w).alloc (Nat.le_refl _) (.cells #[.slice ha hl hc, .slice sa sl sc] 33)
  have hH0 := (hH.next hb0 (Nat.le_refl _) (Nat.le_refl _)).mono hb0.size
  have hS0 := (hS.next hb0 (Nat.le_refl _) (Nat.le_refl _)).mono hb0.size
  have hzc := heap_alloc_new w (.cells #[.slice ha hl hc, .slice sa sl sc] 33)
  have HD := Lib.hid (dateOf_yes ha hl hc sa sl sc H S x hcal y m d hd _ hH0 hS0 (hT.next hb0) hlm slm)
  have HB0 := Lib.hid hb0
  have HZC := Lib.hid hzc
  have HS := Lib.hid hS
  have HCAL := Lib.hid hcal
  have hmd : (1 ≤ m ∧ m ≤ 12) ∧ (1 ≤ d ∧ d ≤ 31) := by
    obtain ⟨⟨_, _, h3, h4, h5, h6⟩, _⟩ := hd
    have := dlen_bounds (y := y) (m := m)
    omega
  obtain ⟨hm12, hd31⟩ := hmd
  clear hb0 hH0 hS0 hzc hH hS hT hlm slm hcal hd
  go_enter Tryd.func24, Tryd.ntmps24
  go_wp2_with (go_at_call 48; refine HD.out.mono ?_; rintro e w1 ⟨rfl, hB1⟩; have HB1 := Lib.hid hB1; clear hB1)
  have hs1 : w.heap.size + 1 ≤ w1.heap.size := by have := HB1.out.size; rw [World.size_alloc] at this; exact this
  have hb1 := HB0.out.trans (HB1.out.mono HB0.out.size)
  have xzc := heap_old ((HB1.out.block w.heap.size (by rw [World.size_alloc]; omega)).trans HZC.out) (.cells #[.int .i64 y, .int .i64 m, .int .i64 d] 110)
  have xzd := heap_alloc_new w1 (.cells #[.int .i64 y, .int .i64 m, .int .i64 d] 110)
  have xb := hb1.alloc hb1.size (.cells #[.int .i64 y, .int .i64 m, .int .i64 d] 110)
  have xs : (w1.alloc (.cells #[.int .i64 y, .int .i64 m, .int .i64 d] 110)).heap.size = w1.heap.size + 1 := World.size_alloc _ _
  obtain ⟨X, hX⟩ : ∃ X, w1.alloc (.cells #[.int .i64 y, .int .i64 m, .int .i64 d] 110) = X := ⟨_, rfl⟩
  obtain ⟨B2, hB2⟩ : ∃ B2, B2 = w1.heap.size := ⟨_, rfl⟩
  rw [hX] at xzc xzd xb xs ⊢
  rw [← hB2] at xzd xs hs1 ⊢
  have XZC := Lib.hid xzc
  have XZD := Lib.hid xzd
  have XB := Lib.hid xb
  have XS := Lib.hid xs
  have q1 : X.drew.cell? ⟨w.heap.size, 0, none⟩ = some (.slice ha hl hc) ∧ X.drew.cell? ⟨w.heap.size, 1, none⟩ = some (.slice sa sl sc) ∧ X.drew.cell? ⟨B2, 1, none⟩ = some (.int .i64 m) ∧ X.drew.cell? ⟨B2, 2, none⟩ = some (.int .i64 d) := ⟨cell_of_row _ _ 0 _ _ _ xzc, cell_of_row _ _ 1 _ _ _ xzc, cell_of_row _ _ 1 _ _ _ xzd, cell_of_row _ _ 2 _ _ _ xzd⟩
  have HBG := Lib.hid (begins_any (H := Unit) ha hl hc sa sl sc S X.drew (show SeasAt X.drew.heap.size X.drew sa sl S from (HS.out.next xb (Nat.le_refl _) (Nat.le_refl _)).mono xb.size) HCAL.out.2.2.2.1 HCAL.out.2.1)
  clear xzc xzd xb hX hB2 hb1 HB0 HZC HD HB1 xs
  go_wp2_with fail
  go_region_held3 (fun w' => w'.cell? ⟨w.heap.size, 0, none⟩ = some (.slice ha hl hc) ∧ w'.cell? ⟨w.heap.size, 1, none⟩ = some (.slice sa sl sc) ∧ w'.cell? ⟨B2, 1, none⟩ = some (.int .i64 m) ∧ w'.cell? ⟨B2, 2, none⟩ = some (.int .i64 d))
    (first | (with_reducible exact q1) | (with_reducible exact q2) | (with_reducible exact q3) | go_keep)
    (first
      | (go_at_call 50; ((with_reducible refine HBG.out.mono ?_); rintro e w2' ⟨rfl, hown2, hB2'⟩; have gc := (hB2'.block w.heap.size (by rw [show X.drew.heap.size = B2 + 1 from XS.out]; omega)).trans XZC.out; have gd := (hB2'.block B2 (by rw [show X.drew.heap.size = B2 + 1 from XS.out]; omega)).trans XZD.out; have q2 : w2'.cell? ⟨w.heap.size, 0, none⟩ = some (.slice ha hl hc) ∧ w2'.cell? ⟨w.heap.size, 1, none⟩ = some (.slice sa sl sc) ∧ w2'.cell? ⟨B2, 1, none⟩ = some (.int .i64 m) ∧ w2'.cell? ⟨B2, 2, none⟩ = some (.int .i64 d) := ⟨cell_of_row _ _ 0 _ _ _ gc, cell_of_row _ _ 1 _ _ _ gc, cell_of_row _ _ 1 _ _ _ gd, cell_of_row _ _ 2 _ _ _ gd⟩; have hs2 : B2 + 1 ≤ w2'.heap.size := (by have := hB2'.size; rw [show X.drew.heap.size = B2 + 1 from XS.out] at this; exact this); have GC := Lib.hid gc; have GD := Lib.hid gd; have HB2 := Lib.hid hB2'; have HNA := Lib.hid (numberAt_any (X.heap.size + 1) S sl (bgn m d) w2' hown2 HCAL.out.2.2.2.1 HCAL.out.2.2.2.2); clear gc gd hB2' hown2))
      | (go_at_call 51; ((with_reducible refine (beginOn_any m d hm12 hd31 _).mono ?_); rintro e w4' ⟨rfl, rfl⟩))
      | (go_at_call 49; ((with_reducible refine HNA.out.mono ?_); rintro e w3' ⟨⟨r, hr, rfl⟩, hB3'⟩; have q3 : w3'.cell? ⟨w.heap.size, 0, none⟩ = some (.slice ha hl hc) ∧ w3'.cell? ⟨w.heap.size, 1, none⟩ = some (.slice sa sl sc) ∧ w3'.cell? ⟨B2, 1, none⟩ = some (.int .i64 m) ∧ w3'.cell? ⟨B2, 2, none⟩ = some (.int .i64 d) := (by have gc := (hB3'.block w.heap.size (by omega)).trans GC.out; have gd := (hB3'.block B2 (by omega)).trans GD.out; exact ⟨cell_of_row _ _ 0 _ _ _ gc, cell_of_row _ _ 1 _ _ _ gc, cell_of_row _ _ 1 _ _ _ gd, cell_of_row _ _ 2 _ _ _ gd⟩); have HB3 := Lib.hid hB3'; have HR := Lib.hid hr; clear hB3' hr)))
  all_goals
    rename_i hHeld
    have hbf := XB.out.drew.trans (HB2.out.mono (by rw [show X.drew.heap.size = B2 + 1 from XS.out]; omega))
    have hbg := hbf.trans (HB3.out.mono hbf.size)
    have HBG2 := Lib.hid hbg
    clear hHeld q1 q2 q3 hbf hbg HB2 HB3
    go_wp2
    go_ret2
    exact ⟨⟨r, HR.out, rfl⟩, HBG2.out⟩
end Go.Proofs.YtbffmobjiiicoaaDoor.H8
end
