/- The document's Share. -/
import Derived.Test.YtmbimnphdhmapaaBRef1
set_option linter.unusedVariables false
set_option linter.unusedSimpArgs false
namespace Go.Proofs.Ytmbimnphdhmapaa
open Go.RowKit Go.Shelf
theorem heap_old' {W : World} {b : Nat} {x : Obj} (h : W.heap[b]? = some x) (o : Obj) : (W.alloc o).heap[b]? = some x := (Below.heap_alloc W o b (Array.getElem?_eq_some_iff.1 h).1).trans h
theorem results_share {cs : Array Value} {b : Nat} {tmps : Array Value} {w : World} (h2 : tmps.getD 2 undef = .pointer (some ⟨b, 0, none⟩))
    (hb : w.heap[b]? = some (.cells cs 31 (0, 0))) (hs : cs.size = 8) : (results Try.f16 tmps).run Try.prog w = .ok (.agg cs) w := by
  obtain ⟨l⟩ := cs
  match l, hs with
  | [x0, x1, x2, x3, x4, x5, x6, x7], _ =>
    simp only [Array.getD_eq_getD_getElem?] at h2
    have c0 : w.cell? ⟨b, 0, none⟩ = some x0 := cell_of_row w b 0 _ _ _ hb
    have c1 : w.cell? ⟨b, 1, none⟩ = some x1 := cell_of_row w b 1 _ _ _ hb
    have c2 : w.cell? ⟨b, 2, none⟩ = some x2 := cell_of_row w b 2 _ _ _ hb
    have c3 : w.cell? ⟨b, 3, none⟩ = some x3 := cell_of_row w b 3 _ _ _ hb
    have c4 : w.cell? ⟨b, 4, none⟩ = some x4 := cell_of_row w b 4 _ _ _ hb
    have c5 : w.cell? ⟨b, 5, none⟩ = some x5 := cell_of_row w b 5 _ _ _ hb
    have c6 : w.cell? ⟨b, 6, none⟩ = some x6 := cell_of_row w b 6 _ _ _ hb
    have c7 : w.cell? ⟨b, 7, none⟩ = some x7 := cell_of_row w b 7 _ _ _ hb
    simp [results, Try.results16, go_sem, h2, c0, c1, c2, c3, c4, c5, c6, c7]
set_option maxRecDepth 100000 in
set_option maxHeartbeats 4000000 in
theorem rShareP_yes (a : Option Addr) (len cap : Nat) (L : Nat → Sw) (hp : PlanIs L len) (w : World) (hA : SwsAt w.heap.size w a len L) :
    Calls Try.prog 16 #[.slice a len cap] w fun e w' => e = .returned (.agg #[.int .i64 (cntN L len 0 1440), .int .i64 (cntN L len 1 1440), .int .i64 (cntN L len 2 1440), .int .i64 (cntN L len 3 1440), .int .i64 (cntN L len 4 1440), .int .i64 (cntN L len 5 1440), .int .i64 (cntN L len 6 1440), .int .i64 (cntN L len 7 1440)]) ∧ Below w.heap.size w w' := by
  have hz0 : ((w.alloc (.cells #[.int .i64 0, .int .i64 0, .int .i64 0, .int .i64 0, .int .i64 0, .int .i64 0, .int .i64 0, .int .i64 0] 31)).alloc (.cells #[.int .i64 0, .int .i64 0, .int .i64 0, .int .i64 0, .int .i64 0, .int .i64 0, .int .i64 0, .int .i64 0] 31)).heap[w.heap.size]? = some (.cells #[.int .i64 0, .int .i64 0, .int .i64 0, .int .i64 0, .int .i64 0, .int .i64 0, .int .i64 0, .int .i64 0] 31) := heap_old' (heap_alloc_new w _) _
  have hz1 : ((w.alloc (.cells #[.int .i64 0, .int .i64 0, .int .i64 0, .int .i64 0, .int .i64 0, .int .i64 0, .int .i64 0, .int .i64 0] 31)).alloc (.cells #[.int .i64 0, .int .i64 0, .int .i64 0, .int .i64 0, .int .i64 0, .int .i64 0, .int .i64 0, .int .i64 0] 31)).heap[w.heap.size + 1]? = some (.cells #[.int .i64 0, .int .i64 0, .int .i64 0, .int .i64 0, .int .i64 0, .int .i64 0, .int .i64 0, .int .i64 0] 31) := by have := heap_alloc_new (w.alloc (.cells #[.int .i64 0, .int .i64 0, .int .i64 0, .int .i64 0, .int .i64 0, .int .i64 0, .int .i64 0, .int .i64 0] 31)) (.cells #[.int .i64 0, .int .i64 0, .int .i64 0, .int .i64 0, .int .i64 0, .int .i64 0, .int .i64 0, .int .i64 0] 31); rw [World.size_alloc] at this; exact this
  have hb0 : Below w.heap.size w ((w.alloc (.cells #[.int .i64 0, .int .i64 0, .int .i64 0, .int .i64 0, .int .i64 0, .int .i64 0, .int .i64 0, .int .i64 0] 31)).alloc (.cells #[.int .i64 0, .int .i64 0, .int .i64 0, .int .i64 0, .int .i64 0, .int .i64 0, .int .i64 0, .int .i64 0] 31)) := ((Below.refl _ w).alloc (Nat.le_refl _) _).alloc (by simp) _
  obtain ⟨X, hX⟩ : ∃ X, X = (w.alloc (.cells #[.int .i64 0, .int .i64 0, .int .i64 0, .int .i64 0, .int .i64 0, .int .i64 0, .int .i64 0, .int .i64 0] 31)).alloc (.cells #[.int .i64 0, .int .i64 0, .int .i64 0, .int .i64 0, .int .i64 0, .int .i64 0, .int .i64 0, .int .i64 0] 31) := ⟨_, rfl⟩
  rw [← hX] at hz0 hz1 hb0
  have HX := Lib.hid hX
  have HZ0 := Lib.hid hz0
  have HZ1 := Lib.hid hz1
  have HB0 := Lib.hid hb0
  have HA := Lib.hid hA
  clear hX hz0 hz1 hb0 hA
  go_enter Try.func16, Try.ntmps16
  go_wp2_with fail
  rw [← HX.out]
  have HQ := Lib.hid hp
  clear hp
  go_loopw [4] (fun i wr => ∃ n : Nat, n ≤ 1440 ∧ i = .int .i64 n ∧ wr.heap[w.heap.size]? = some (.cells #[.int .i64 0, .int .i64 0, .int .i64 0, .int .i64 0, .int .i64 0, .int .i64 0, .int .i64 0, .int .i64 0] 31) ∧ wr.heap[w.heap.size + 1]? = some (.cells #[.int .i64 (cntN L len 0 n), .int .i64 (cntN L len 1 n), .int .i64 (cntN L len 2 n), .int .i64 (cntN L len 3 n), .int .i64 (cntN L len 4 n), .int .i64 (cntN L len 5 n), .int .i64 (cntN L len 6 n), .int .i64 (cntN L len 7 n)] 31 (0, 0)) ∧ Below w.heap.size w wr) (fun i _ => (1440 - intOf i).toNat)
  case atStart => exact ⟨0, Nat.zero_le _, rfl, HZ0.out, HZ1.out, HB0.out⟩
  case round =>
    obtain ⟨n, hn, rfl, h0, h1, hb⟩ := hrel
    have HH0 := Lib.hid h0
    have HH1 := Lib.hid h1
    have HB := Lib.hid hb
    have hs1 : w.heap.size + 1 < wr.heap.size := (Array.getElem?_eq_some_iff.1 h1).1
    clear h0 h1 hb HZ0 HZ1 HB0
    by_cases hlt : n < 1440
    · have hlti : (n : Int) < 1440 := by omega
      have HC := Lib.hid (rBandP_yes a len cap L n HQ.out ⟨by omega, by omega⟩ wr ((HA.out.next HB.out (Nat.le_refl _) (Nat.le_refl _)).mono HB.out.size))
      have hv := bandN_range len (fun i hi => HQ.out.2.2.2 i hi) (x := (n : Int))
      obtain ⟨v, hvv⟩ : ∃ v, bandN L len n = v := ⟨_, rfl⟩
      rw [hvv] at HC hv
      have HV := Lib.hid hvv
      clear hvv
      rcases (by omega : v = 0 ∨ v = 1 ∨ v = 2 ∨ v = 3 ∨ v = 4 ∨ v = 5 ∨ v = 6 ∨ v = 7) with rfl | rfl | rfl | rfl | rfl | rfl | rfl | rfl
      · go_wp2_with fail
        refine HC.out.mono ?_
        rintro e w2 ⟨rfl, hB⟩
        have r1 := (hB.block (w.heap.size + 1) hs1).trans HH1.out
        have r0 := (hB.block w.heap.size (by omega)).trans HH0.out
        have hb2 := HB.out.trans (hB.mono HB.out.size)
        have hst := fun q => (show cntN L len q (n + 1) = cntN L len q n + (if bandN L len n = (q : Int) then 1 else 0) from rfl)
        rw [HV.out] at hst
        have hlc := cntN_le L len 0 n
        obtain ⟨K, hK⟩ : ∃ k, cntN L len 0 n = k := ⟨_, rfl⟩
        have kc : w2.cell? ⟨w.heap.size + 1, 0, none⟩ = some (.int .i64 (cntN L len 0 n)) := cell_of_row w2 _ 0 _ _ _ r1
        have kf := frozen_of_row w2 (w.heap.size + 1) 0 _ _ r1
        rw [hK] at kc hlc
        have HR1 := Lib.hid r1
        have HR0 := Lib.hid r0
        have HB2 := Lib.hid hb2
        have HST := Lib.hid hst
        have HK := Lib.hid hK
        clear HC hB r1 r0 hb2 hst hK HB HH0 HH1
        go_wp2
        go_roundw
        case rel =>
          refine ⟨n + 1, by omega, by go_num, ?_, ?_, HB2.out.setCell (p := ⟨w.heap.size + 1, 0, none⟩) (by show w.heap.size ≤ w.heap.size + 1; omega) _⟩
          · exact (heap_setCell_other w2 ⟨w.heap.size + 1, 0, none⟩ w.heap.size _ (by simp)).trans HR0.out
          · rw [heap_setCell_same w2 (w.heap.size + 1) 0 _ _ (.int .i64 ((K : Int) + 1)) HR1.out]
            simp [HST.out, HK.out]
        case measure => first | (simp [intOf]; done) | (simp [intOf]; omega)
      · go_wp2_with fail
        refine HC.out.mono ?_
        rintro e w2 ⟨rfl, hB⟩
        have r1 := (hB.block (w.heap.size + 1) hs1).trans HH1.out
        have r0 := (hB.block w.heap.size (by omega)).trans HH0.out
        have hb2 := HB.out.trans (hB.mono HB.out.size)
        have hst := fun q => (show cntN L len q (n + 1) = cntN L len q n + (if bandN L len n = (q : Int) then 1 else 0) from rfl)
        rw [HV.out] at hst
        have hlc := cntN_le L len 1 n
        obtain ⟨K, hK⟩ : ∃ k, cntN L len 1 n = k := ⟨_, rfl⟩
        have kc : w2.cell? ⟨w.heap.size + 1, 1, none⟩ = some (.int .i64 (cntN L len 1 n)) := cell_of_row w2 _ 1 _ _ _ r1
        have kf := frozen_of_row w2 (w.heap.size + 1) 1 _ _ r1
        rw [hK] at kc hlc
        have HR1 := Lib.hid r1
        have HR0 := Lib.hid r0
        have HB2 := Lib.hid hb2
        have HST := Lib.hid hst
        have HK := Lib.hid hK
        clear HC hB r1 r0 hb2 hst hK HB HH0 HH1
        go_wp2
        go_roundw
        case rel =>
          refine ⟨n + 1, by omega, by go_num, ?_, ?_, HB2.out.setCell (p := ⟨w.heap.size + 1, 1, none⟩) (by show w.heap.size ≤ w.heap.size + 1; omega) _⟩
          · exact (heap_setCell_other w2 ⟨w.heap.size + 1, 1, none⟩ w.heap.size _ (by simp)).trans HR0.out
          · rw [heap_setCell_same w2 (w.heap.size + 1) 1 _ _ (.int .i64 ((K : Int) + 1)) HR1.out]
            simp [HST.out, HK.out]
        case measure => first | (simp [intOf]; done) | (simp [intOf]; omega)
      · go_wp2_with fail
        refine HC.out.mono ?_
        rintro e w2 ⟨rfl, hB⟩
        have r1 := (hB.block (w.heap.size + 1) hs1).trans HH1.out
        have r0 := (hB.block w.heap.size (by omega)).trans HH0.out
        have hb2 := HB.out.trans (hB.mono HB.out.size)
        have hst := fun q => (show cntN L len q (n + 1) = cntN L len q n + (if bandN L len n = (q : Int) then 1 else 0) from rfl)
        rw [HV.out] at hst
        have hlc := cntN_le L len 2 n
        obtain ⟨K, hK⟩ : ∃ k, cntN L len 2 n = k := ⟨_, rfl⟩
        have kc : w2.cell? ⟨w.heap.size + 1, 2, none⟩ = some (.int .i64 (cntN L len 2 n)) := cell_of_row w2 _ 2 _ _ _ r1
        have kf := frozen_of_row w2 (w.heap.size + 1) 2 _ _ r1
        rw [hK] at kc hlc
        have HR1 := Lib.hid r1
        have HR0 := Lib.hid r0
        have HB2 := Lib.hid hb2
        have HST := Lib.hid hst
        have HK := Lib.hid hK
        clear HC hB r1 r0 hb2 hst hK HB HH0 HH1
        go_wp2
        go_roundw
        case rel =>
          refine ⟨n + 1, by omega, by go_num, ?_, ?_, HB2.out.setCell (p := ⟨w.heap.size + 1, 2, none⟩) (by show w.heap.size ≤ w.heap.size + 1; omega) _⟩
          · exact (heap_setCell_other w2 ⟨w.heap.size + 1, 2, none⟩ w.heap.size _ (by simp)).trans HR0.out
          · rw [heap_setCell_same w2 (w.heap.size + 1) 2 _ _ (.int .i64 ((K : Int) + 1)) HR1.out]
            simp [HST.out, HK.out]
        case measure => first | (simp [intOf]; done) | (simp [intOf]; omega)
      · go_wp2_with fail
        refine HC.out.mono ?_
        rintro e w2 ⟨rfl, hB⟩
        have r1 := (hB.block (w.heap.size + 1) hs1).trans HH1.out
        have r0 := (hB.block w.heap.size (by omega)).trans HH0.out
        have hb2 := HB.out.trans (hB.mono HB.out.size)
        have hst := fun q => (show cntN L len q (n + 1) = cntN L len q n + (if bandN L len n = (q : Int) then 1 else 0) from rfl)
        rw [HV.out] at hst
        have hlc := cntN_le L len 3 n
        obtain ⟨K, hK⟩ : ∃ k, cntN L len 3 n = k := ⟨_, rfl⟩
        have kc : w2.cell? ⟨w.heap.size + 1, 3, none⟩ = some (.int .i64 (cntN L len 3 n)) := cell_of_row w2 _ 3 _ _ _ r1
        have kf := frozen_of_row w2 (w.heap.size + 1) 3 _ _ r1
        rw [hK] at kc hlc
        have HR1 := Lib.hid r1
        have HR0 := Lib.hid r0
        have HB2 := Lib.hid hb2
        have HST := Lib.hid hst
        have HK := Lib.hid hK
        clear HC hB r1 r0 hb2 hst hK HB HH0 HH1
        go_wp2
        go_roundw
        case rel =>
          refine ⟨n + 1, by omega, by go_num, ?_, ?_, HB2.out.setCell (p := ⟨w.heap.size + 1, 3, none⟩) (by show w.heap.size ≤ w.heap.size + 1; omega) _⟩
          · exact (heap_setCell_other w2 ⟨w.heap.size + 1, 3, none⟩ w.heap.size _ (by simp)).trans HR0.out
          · rw [heap_setCell_same w2 (w.heap.size + 1) 3 _ _ (.int .i64 ((K : Int) + 1)) HR1.out]
            simp [HST.out, HK.out]
        case measure => first | (simp [intOf]; done) | (simp [intOf]; omega)
      · go_wp2_with fail
        refine HC.out.mono ?_
        rintro e w2 ⟨rfl, hB⟩
        have r1 := (hB.block (w.heap.size + 1) hs1).trans HH1.out
        have r0 := (hB.block w.heap.size (by omega)).trans HH0.out
        have hb2 := HB.out.trans (hB.mono HB.out.size)
        have hst := fun q => (show cntN L len q (n + 1) = cntN L len q n + (if bandN L len n = (q : Int) then 1 else 0) from rfl)
        rw [HV.out] at hst
        have hlc := cntN_le L len 4 n
        obtain ⟨K, hK⟩ : ∃ k, cntN L len 4 n = k := ⟨_, rfl⟩
        have kc : w2.cell? ⟨w.heap.size + 1, 4, none⟩ = some (.int .i64 (cntN L len 4 n)) := cell_of_row w2 _ 4 _ _ _ r1
        have kf := frozen_of_row w2 (w.heap.size + 1) 4 _ _ r1
        rw [hK] at kc hlc
        have HR1 := Lib.hid r1
        have HR0 := Lib.hid r0
        have HB2 := Lib.hid hb2
        have HST := Lib.hid hst
        have HK := Lib.hid hK
        clear HC hB r1 r0 hb2 hst hK HB HH0 HH1
        go_wp2
        go_roundw
        case rel =>
          refine ⟨n + 1, by omega, by go_num, ?_, ?_, HB2.out.setCell (p := ⟨w.heap.size + 1, 4, none⟩) (by show w.heap.size ≤ w.heap.size + 1; omega) _⟩
          · exact (heap_setCell_other w2 ⟨w.heap.size + 1, 4, none⟩ w.heap.size _ (by simp)).trans HR0.out
          · rw [heap_setCell_same w2 (w.heap.size + 1) 4 _ _ (.int .i64 ((K : Int) + 1)) HR1.out]
            simp [HST.out, HK.out]
        case measure => first | (simp [intOf]; done) | (simp [intOf]; omega)
      · go_wp2_with fail
        refine HC.out.mono ?_
        rintro e w2 ⟨rfl, hB⟩
        have r1 := (hB.block (w.heap.size + 1) hs1).trans HH1.out
        have r0 := (hB.block w.heap.size (by omega)).trans HH0.out
        have hb2 := HB.out.trans (hB.mono HB.out.size)
        have hst := fun q => (show cntN L len q (n + 1) = cntN L len q n + (if bandN L len n = (q : Int) then 1 else 0) from rfl)
        rw [HV.out] at hst
        have hlc := cntN_le L len 5 n
        obtain ⟨K, hK⟩ : ∃ k, cntN L len 5 n = k := ⟨_, rfl⟩
        have kc : w2.cell? ⟨w.heap.size + 1, 5, none⟩ = some (.int .i64 (cntN L len 5 n)) := cell_of_row w2 _ 5 _ _ _ r1
        have kf := frozen_of_row w2 (w.heap.size + 1) 5 _ _ r1
        rw [hK] at kc hlc
        have HR1 := Lib.hid r1
        have HR0 := Lib.hid r0
        have HB2 := Lib.hid hb2
        have HST := Lib.hid hst
        have HK := Lib.hid hK
        clear HC hB r1 r0 hb2 hst hK HB HH0 HH1
        go_wp2
        go_roundw
        case rel =>
          refine ⟨n + 1, by omega, by go_num, ?_, ?_, HB2.out.setCell (p := ⟨w.heap.size + 1, 5, none⟩) (by show w.heap.size ≤ w.heap.size + 1; omega) _⟩
          · exact (heap_setCell_other w2 ⟨w.heap.size + 1, 5, none⟩ w.heap.size _ (by simp)).trans HR0.out
          · rw [heap_setCell_same w2 (w.heap.size + 1) 5 _ _ (.int .i64 ((K : Int) + 1)) HR1.out]
            simp [HST.out, HK.out]
        case measure => first | (simp [intOf]; done) | (simp [intOf]; omega)
      · go_wp2_with fail
        refine HC.out.mono ?_
        rintro e w2 ⟨rfl, hB⟩
        have r1 := (hB.block (w.heap.size + 1) hs1).trans HH1.out
        have r0 := (hB.block w.heap.size (by omega)).trans HH0.out
        have hb2 := HB.out.trans (hB.mono HB.out.size)
        have hst := fun q => (show cntN L len q (n + 1) = cntN L len q n + (if bandN L len n = (q : Int) then 1 else 0) from rfl)
        rw [HV.out] at hst
        have hlc := cntN_le L len 6 n
        obtain ⟨K, hK⟩ : ∃ k, cntN L len 6 n = k := ⟨_, rfl⟩
        have kc : w2.cell? ⟨w.heap.size + 1, 6, none⟩ = some (.int .i64 (cntN L len 6 n)) := cell_of_row w2 _ 6 _ _ _ r1
        have kf := frozen_of_row w2 (w.heap.size + 1) 6 _ _ r1
        rw [hK] at kc hlc
        have HR1 := Lib.hid r1
        have HR0 := Lib.hid r0
        have HB2 := Lib.hid hb2
        have HST := Lib.hid hst
        have HK := Lib.hid hK
        clear HC hB r1 r0 hb2 hst hK HB HH0 HH1
        go_wp2
        go_roundw
        case rel =>
          refine ⟨n + 1, by omega, by go_num, ?_, ?_, HB2.out.setCell (p := ⟨w.heap.size + 1, 6, none⟩) (by show w.heap.size ≤ w.heap.size + 1; omega) _⟩
          · exact (heap_setCell_other w2 ⟨w.heap.size + 1, 6, none⟩ w.heap.size _ (by simp)).trans HR0.out
          · rw [heap_setCell_same w2 (w.heap.size + 1) 6 _ _ (.int .i64 ((K : Int) + 1)) HR1.out]
            simp [HST.out, HK.out]
        case measure => first | (simp [intOf]; done) | (simp [intOf]; omega)
      · go_wp2_with fail
        refine HC.out.mono ?_
        rintro e w2 ⟨rfl, hB⟩
        have r1 := (hB.block (w.heap.size + 1) hs1).trans HH1.out
        have r0 := (hB.block w.heap.size (by omega)).trans HH0.out
        have hb2 := HB.out.trans (hB.mono HB.out.size)
        have hst := fun q => (show cntN L len q (n + 1) = cntN L len q n + (if bandN L len n = (q : Int) then 1 else 0) from rfl)
        rw [HV.out] at hst
        have hlc := cntN_le L len 7 n
        obtain ⟨K, hK⟩ : ∃ k, cntN L len 7 n = k := ⟨_, rfl⟩
        have kc : w2.cell? ⟨w.heap.size + 1, 7, none⟩ = some (.int .i64 (cntN L len 7 n)) := cell_of_row w2 _ 7 _ _ _ r1
        have kf := frozen_of_row w2 (w.heap.size + 1) 7 _ _ r1
        rw [hK] at kc hlc
        have HR1 := Lib.hid r1
        have HR0 := Lib.hid r0
        have HB2 := Lib.hid hb2
        have HST := Lib.hid hst
        have HK := Lib.hid hK
        clear HC hB r1 r0 hb2 hst hK HB HH0 HH1
        go_wp2
        go_roundw
        case rel =>
          refine ⟨n + 1, by omega, by go_num, ?_, ?_, HB2.out.setCell (p := ⟨w.heap.size + 1, 7, none⟩) (by show w.heap.size ≤ w.heap.size + 1; omega) _⟩
          · exact (heap_setCell_other w2 ⟨w.heap.size + 1, 7, none⟩ w.heap.size _ (by simp)).trans HR0.out
          · rw [heap_setCell_same w2 (w.heap.size + 1) 7 _ _ (.int .i64 ((K : Int) + 1)) HR1.out]
            simp [HST.out, HK.out]
        case measure => first | (simp [intOf]; done) | (simp [intOf]; omega)
    · have hne : n = 1440 := by omega
      subst hne
      obtain ⟨K0, e0⟩ : ∃ k, cntN L len 0 1440 = k := ⟨_, rfl⟩
      obtain ⟨K1, e1⟩ : ∃ k, cntN L len 1 1440 = k := ⟨_, rfl⟩
      obtain ⟨K2, e2⟩ : ∃ k, cntN L len 2 1440 = k := ⟨_, rfl⟩
      obtain ⟨K3, e3⟩ : ∃ k, cntN L len 3 1440 = k := ⟨_, rfl⟩
      obtain ⟨K4, e4⟩ : ∃ k, cntN L len 4 1440 = k := ⟨_, rfl⟩
      obtain ⟨K5, e5⟩ : ∃ k, cntN L len 5 1440 = k := ⟨_, rfl⟩
      obtain ⟨K6, e6⟩ : ∃ k, cntN L len 6 1440 = k := ⟨_, rfl⟩
      obtain ⟨K7, e7⟩ : ∃ k, cntN L len 7 1440 = k := ⟨_, rfl⟩
      have q0 : wr.cell? ⟨w.heap.size + 1, 0, none⟩ = some (.int .i64 K0) := by rw [← e0]; exact cell_of_row wr _ 0 _ _ _ HH1.out
      have q1 : wr.cell? ⟨w.heap.size + 1, 1, none⟩ = some (.int .i64 K1) := by rw [← e1]; exact cell_of_row wr _ 1 _ _ _ HH1.out
      have q2 : wr.cell? ⟨w.heap.size + 1, 2, none⟩ = some (.int .i64 K2) := by rw [← e2]; exact cell_of_row wr _ 2 _ _ _ HH1.out
      have q3 : wr.cell? ⟨w.heap.size + 1, 3, none⟩ = some (.int .i64 K3) := by rw [← e3]; exact cell_of_row wr _ 3 _ _ _ HH1.out
      have q4 : wr.cell? ⟨w.heap.size + 1, 4, none⟩ = some (.int .i64 K4) := by rw [← e4]; exact cell_of_row wr _ 4 _ _ _ HH1.out
      have q5 : wr.cell? ⟨w.heap.size + 1, 5, none⟩ = some (.int .i64 K5) := by rw [← e5]; exact cell_of_row wr _ 5 _ _ _ HH1.out
      have q6 : wr.cell? ⟨w.heap.size + 1, 6, none⟩ = some (.int .i64 K6) := by rw [← e6]; exact cell_of_row wr _ 6 _ _ _ HH1.out
      have q7 : wr.cell? ⟨w.heap.size + 1, 7, none⟩ = some (.int .i64 K7) := by rw [← e7]; exact cell_of_row wr _ 7 _ _ _ HH1.out
      have f0 := frozen_of_row wr w.heap.size 0 _ _ HH0.out
      have z0 : wr.cell? ⟨w.heap.size, 0, none⟩ = some (.int .i64 0) := cell_of_row wr _ 0 _ _ _ HH0.out
      have f1 := frozen_of_row wr w.heap.size 1 _ _ HH0.out
      have z1 : wr.cell? ⟨w.heap.size, 1, none⟩ = some (.int .i64 0) := cell_of_row wr _ 1 _ _ _ HH0.out
      have f2 := frozen_of_row wr w.heap.size 2 _ _ HH0.out
      have z2 : wr.cell? ⟨w.heap.size, 2, none⟩ = some (.int .i64 0) := cell_of_row wr _ 2 _ _ _ HH0.out
      have f3 := frozen_of_row wr w.heap.size 3 _ _ HH0.out
      have z3 : wr.cell? ⟨w.heap.size, 3, none⟩ = some (.int .i64 0) := cell_of_row wr _ 3 _ _ _ HH0.out
      have f4 := frozen_of_row wr w.heap.size 4 _ _ HH0.out
      have z4 : wr.cell? ⟨w.heap.size, 4, none⟩ = some (.int .i64 0) := cell_of_row wr _ 4 _ _ _ HH0.out
      have f5 := frozen_of_row wr w.heap.size 5 _ _ HH0.out
      have z5 : wr.cell? ⟨w.heap.size, 5, none⟩ = some (.int .i64 0) := cell_of_row wr _ 5 _ _ _ HH0.out
      have f6 := frozen_of_row wr w.heap.size 6 _ _ HH0.out
      have z6 : wr.cell? ⟨w.heap.size, 6, none⟩ = some (.int .i64 0) := cell_of_row wr _ 6 _ _ _ HH0.out
      have f7 := frozen_of_row wr w.heap.size 7 _ _ HH0.out
      have z7 : wr.cell? ⟨w.heap.size, 7, none⟩ = some (.int .i64 0) := cell_of_row wr _ 7 _ _ _ HH0.out
      have E0 := Lib.hid e0
      have E1 := Lib.hid e1
      have E2 := Lib.hid e2
      have E3 := Lib.hid e3
      have E4 := Lib.hid e4
      have E5 := Lib.hid e5
      have E6 := Lib.hid e6
      have E7 := Lib.hid e7
      clear e0 e1 e2 e3 e4 e5 e6 e7
      go_wp2
      have s0 := heap_setCell_same wr w.heap.size 0 _ _ (.int .i64 K0) HH0.out
      have s1 := heap_setCell_same _ w.heap.size 1 _ _ (.int .i64 K1) s0
      have s2 := heap_setCell_same _ w.heap.size 2 _ _ (.int .i64 K2) s1
      have s3 := heap_setCell_same _ w.heap.size 3 _ _ (.int .i64 K3) s2
      have s4 := heap_setCell_same _ w.heap.size 4 _ _ (.int .i64 K4) s3
      have s5 := heap_setCell_same _ w.heap.size 5 _ _ (.int .i64 K5) s4
      have s6 := heap_setCell_same _ w.heap.size 6 _ _ (.int .i64 K6) s5
      have s7 := heap_setCell_same _ w.heap.size 7 _ _ (.int .i64 K7) s6
      refine bodyPost_ret (results_share rfl s7 (by simp)) rfl ⟨?_, ?_⟩
      · rw [E0.out, E1.out, E2.out, E3.out, E4.out, E5.out, E6.out, E7.out]; simp
      · exact ((((((((HB.out.setCell (p := ⟨w.heap.size, 0, none⟩) (Nat.le_refl _) _).setCell (p := ⟨w.heap.size, 1, none⟩) (Nat.le_refl _) _).setCell (p := ⟨w.heap.size, 2, none⟩) (Nat.le_refl _) _).setCell (p := ⟨w.heap.size, 3, none⟩) (Nat.le_refl _) _).setCell (p := ⟨w.heap.size, 4, none⟩) (Nat.le_refl _) _).setCell (p := ⟨w.heap.size, 5, none⟩) (Nat.le_refl _) _).setCell (p := ⟨w.heap.size, 6, none⟩) (Nat.le_refl _) _).setCell (p := ⟨w.heap.size, 7, none⟩) (Nat.le_refl _) _)
set_option maxRecDepth 100000 in
set_option maxHeartbeats 4000000 in
theorem rShareP_no (a : Option Addr) (len cap : Nat) (L : Nat → Sw) (hno : ¬ PlanIs L len) (w : World) (hA : SwsAt w.heap.size w a len L) (hlm : len ≤ maxLen) :
    Calls Try.prog 16 #[.slice a len cap] w fun e w' => e = .returned (.agg #[.int .i64 0, .int .i64 0, .int .i64 0, .int .i64 0, .int .i64 0, .int .i64 0, .int .i64 0, .int .i64 0]) ∧ Below w.heap.size w w' := by
  have hz0 : ((w.alloc (.cells #[.int .i64 0, .int .i64 0, .int .i64 0, .int .i64 0, .int .i64 0, .int .i64 0, .int .i64 0, .int .i64 0] 31)).alloc (.cells #[.int .i64 0, .int .i64 0, .int .i64 0, .int .i64 0, .int .i64 0, .int .i64 0, .int .i64 0, .int .i64 0] 31)).heap[w.heap.size]? = some (.cells #[.int .i64 0, .int .i64 0, .int .i64 0, .int .i64 0, .int .i64 0, .int .i64 0, .int .i64 0, .int .i64 0] 31) := heap_old' (heap_alloc_new w _) _
  have hz1 : ((w.alloc (.cells #[.int .i64 0, .int .i64 0, .int .i64 0, .int .i64 0, .int .i64 0, .int .i64 0, .int .i64 0, .int .i64 0] 31)).alloc (.cells #[.int .i64 0, .int .i64 0, .int .i64 0, .int .i64 0, .int .i64 0, .int .i64 0, .int .i64 0, .int .i64 0] 31)).heap[w.heap.size + 1]? = some (.cells #[.int .i64 0, .int .i64 0, .int .i64 0, .int .i64 0, .int .i64 0, .int .i64 0, .int .i64 0, .int .i64 0] 31) := by have := heap_alloc_new (w.alloc (.cells #[.int .i64 0, .int .i64 0, .int .i64 0, .int .i64 0, .int .i64 0, .int .i64 0, .int .i64 0, .int .i64 0] 31)) (.cells #[.int .i64 0, .int .i64 0, .int .i64 0, .int .i64 0, .int .i64 0, .int .i64 0, .int .i64 0, .int .i64 0] 31); rw [World.size_alloc] at this; exact this
  have hb0 : Below w.heap.size w ((w.alloc (.cells #[.int .i64 0, .int .i64 0, .int .i64 0, .int .i64 0, .int .i64 0, .int .i64 0, .int .i64 0, .int .i64 0] 31)).alloc (.cells #[.int .i64 0, .int .i64 0, .int .i64 0, .int .i64 0, .int .i64 0, .int .i64 0, .int .i64 0, .int .i64 0] 31)) := ((Below.refl _ w).alloc (Nat.le_refl _) _).alloc (by simp) _
  obtain ⟨X, hX⟩ : ∃ X, X = (w.alloc (.cells #[.int .i64 0, .int .i64 0, .int .i64 0, .int .i64 0, .int .i64 0, .int .i64 0, .int .i64 0, .int .i64 0] 31)).alloc (.cells #[.int .i64 0, .int .i64 0, .int .i64 0, .int .i64 0, .int .i64 0, .int .i64 0, .int .i64 0, .int .i64 0] 31) := ⟨_, rfl⟩
  rw [← hX] at hz0 hz1 hb0
  have HX := Lib.hid hX
  have HZ0 := Lib.hid hz0
  have HZ1 := Lib.hid hz1
  have HB0 := Lib.hid hb0
  have HA := Lib.hid hA
  clear hX hz0 hz1 hb0 hA
  go_enter Try.func16, Try.ntmps16
  go_wp2_with fail
  rw [← HX.out]
  have HQ := Lib.hid hno
  have HLM := Lib.hid hlm
  clear hno hlm
  go_loopw [4] (fun i wr => ∃ n : Nat, n ≤ 1440 ∧ i = .int .i64 n ∧ wr.heap[w.heap.size]? = some (.cells #[.int .i64 0, .int .i64 0, .int .i64 0, .int .i64 0, .int .i64 0, .int .i64 0, .int .i64 0, .int .i64 0] 31) ∧ wr.heap[w.heap.size + 1]? = some (.cells #[.int .i64 0, .int .i64 0, .int .i64 0, .int .i64 0, .int .i64 0, .int .i64 0, .int .i64 0, .int .i64 0] 31) ∧ Below w.heap.size w wr) (fun i _ => (1440 - intOf i).toNat)
  case atStart => exact ⟨0, Nat.zero_le _, rfl, HZ0.out, HZ1.out, HB0.out⟩
  case round =>
    obtain ⟨n, hn, rfl, h0, h1, hb⟩ := hrel
    have HH0 := Lib.hid h0
    have HH1 := Lib.hid h1
    have HB := Lib.hid hb
    have hs1 : w.heap.size + 1 < wr.heap.size := (Array.getElem?_eq_some_iff.1 h1).1
    clear h0 h1 hb HZ0 HZ1 HB0
    by_cases hlt : n < 1440
    · have hlti : (n : Int) < 1440 := by omega
      have HC := Lib.hid (rBandP_no a len cap L n (fun h => HQ.out h.1) wr ((HA.out.next HB.out (Nat.le_refl _) (Nat.le_refl _)).mono HB.out.size) HLM.out)
      go_wp2_with fail
      refine HC.out.mono ?_
      rintro e w2 ⟨rfl, hB⟩
      have HR1 := Lib.hid ((hB.block (w.heap.size + 1) hs1).trans HH1.out)
      have HR0 := Lib.hid ((hB.block w.heap.size (by omega)).trans HH0.out)
      have HB2 := Lib.hid (HB.out.trans (hB.mono HB.out.size))
      clear HC hB HB HH0 HH1
      go_wp2
      go_roundw
      case rel => exact ⟨n + 1, by omega, by go_num, HR0.out, HR1.out, HB2.out⟩
      case measure => first | (simp [intOf]; done) | (simp [intOf]; omega)
    · have hne : n = 1440 := by omega
      subst hne
      have q0 : wr.cell? ⟨w.heap.size + 1, 0, none⟩ = some (.int .i64 0) := cell_of_row wr _ 0 _ _ _ HH1.out
      have q1 : wr.cell? ⟨w.heap.size + 1, 1, none⟩ = some (.int .i64 0) := cell_of_row wr _ 1 _ _ _ HH1.out
      have q2 : wr.cell? ⟨w.heap.size + 1, 2, none⟩ = some (.int .i64 0) := cell_of_row wr _ 2 _ _ _ HH1.out
      have q3 : wr.cell? ⟨w.heap.size + 1, 3, none⟩ = some (.int .i64 0) := cell_of_row wr _ 3 _ _ _ HH1.out
      have q4 : wr.cell? ⟨w.heap.size + 1, 4, none⟩ = some (.int .i64 0) := cell_of_row wr _ 4 _ _ _ HH1.out
      have q5 : wr.cell? ⟨w.heap.size + 1, 5, none⟩ = some (.int .i64 0) := cell_of_row wr _ 5 _ _ _ HH1.out
      have q6 : wr.cell? ⟨w.heap.size + 1, 6, none⟩ = some (.int .i64 0) := cell_of_row wr _ 6 _ _ _ HH1.out
      have q7 : wr.cell? ⟨w.heap.size + 1, 7, none⟩ = some (.int .i64 0) := cell_of_row wr _ 7 _ _ _ HH1.out
      have f0 := frozen_of_row wr w.heap.size 0 _ _ HH0.out
      have z0 : wr.cell? ⟨w.heap.size, 0, none⟩ = some (.int .i64 0) := cell_of_row wr _ 0 _ _ _ HH0.out
      have f1 := frozen_of_row wr w.heap.size 1 _ _ HH0.out
      have z1 : wr.cell? ⟨w.heap.size, 1, none⟩ = some (.int .i64 0) := cell_of_row wr _ 1 _ _ _ HH0.out
      have f2 := frozen_of_row wr w.heap.size 2 _ _ HH0.out
      have z2 : wr.cell? ⟨w.heap.size, 2, none⟩ = some (.int .i64 0) := cell_of_row wr _ 2 _ _ _ HH0.out
      have f3 := frozen_of_row wr w.heap.size 3 _ _ HH0.out
      have z3 : wr.cell? ⟨w.heap.size, 3, none⟩ = some (.int .i64 0) := cell_of_row wr _ 3 _ _ _ HH0.out
      have f4 := frozen_of_row wr w.heap.size 4 _ _ HH0.out
      have z4 : wr.cell? ⟨w.heap.size, 4, none⟩ = some (.int .i64 0) := cell_of_row wr _ 4 _ _ _ HH0.out
      have f5 := frozen_of_row wr w.heap.size 5 _ _ HH0.out
      have z5 : wr.cell? ⟨w.heap.size, 5, none⟩ = some (.int .i64 0) := cell_of_row wr _ 5 _ _ _ HH0.out
      have f6 := frozen_of_row wr w.heap.size 6 _ _ HH0.out
      have z6 : wr.cell? ⟨w.heap.size, 6, none⟩ = some (.int .i64 0) := cell_of_row wr _ 6 _ _ _ HH0.out
      have f7 := frozen_of_row wr w.heap.size 7 _ _ HH0.out
      have z7 : wr.cell? ⟨w.heap.size, 7, none⟩ = some (.int .i64 0) := cell_of_row wr _ 7 _ _ _ HH0.out
      go_wp2
      have s0 := heap_setCell_same wr w.heap.size 0 _ _ (.int .i64 0) HH0.out
      have s1 := heap_setCell_same _ w.heap.size 1 _ _ (.int .i64 0) s0
      have s2 := heap_setCell_same _ w.heap.size 2 _ _ (.int .i64 0) s1
      have s3 := heap_setCell_same _ w.heap.size 3 _ _ (.int .i64 0) s2
      have s4 := heap_setCell_same _ w.heap.size 4 _ _ (.int .i64 0) s3
      have s5 := heap_setCell_same _ w.heap.size 5 _ _ (.int .i64 0) s4
      have s6 := heap_setCell_same _ w.heap.size 6 _ _ (.int .i64 0) s5
      have s7 := heap_setCell_same _ w.heap.size 7 _ _ (.int .i64 0) s6
      refine bodyPost_ret (results_share rfl s7 (by simp)) rfl ⟨?_, ?_⟩
      · simp
      · exact ((((((((HB.out.setCell (p := ⟨w.heap.size, 0, none⟩) (Nat.le_refl _) _).setCell (p := ⟨w.heap.size, 1, none⟩) (Nat.le_refl _) _).setCell (p := ⟨w.heap.size, 2, none⟩) (Nat.le_refl _) _).setCell (p := ⟨w.heap.size, 3, none⟩) (Nat.le_refl _) _).setCell (p := ⟨w.heap.size, 4, none⟩) (Nat.le_refl _) _).setCell (p := ⟨w.heap.size, 5, none⟩) (Nat.le_refl _) _).setCell (p := ⟨w.heap.size, 6, none⟩) (Nat.le_refl _) _).setCell (p := ⟨w.heap.size, 7, none⟩) (Nat.le_refl _) _)
end Go.Proofs.Ytmbimnphdhmapaa
