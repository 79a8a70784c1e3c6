/- The statement DaysLists, walked. -/
import Derived.Test.YtgedcfgmfhlkdaaDoorHLists
set_option linter.unusedVariables false
set_option linter.unusedSimpArgs false
namespace Go.Proofs.YtgedcfgmfhlkdaaDoor
open Go.RowKit Go.Shelf
set_option maxRecDepth 100000 in
set_option maxHeartbeats 4000000 in
theorem listsW_big (ha : Option Addr) (hl hc : Nat) (sa : Option Addr) (sl sc : Nat) (H : Nat → Ho) (S : Nat → Se) (y x kd : Int) (hg : 20 < hl) (w : World) (hH : HosAt w.heap.size w ha hl H) (hS : SeasAt w.heap.size w sa sl S) (hT : Tabs w) (hlm : hl ≤ maxLen) (slm : sl ≤ maxLen) :
    Calls Tryd.prog 4 #[calV ha hl hc sa sl sc, .int .i64 y, .int .i64 x, .int .i64 kd] w fun e w' => e = .returned (.bool true) ∧ Below w.heap.size w w' := by
  have hgi : (20 : Int) < hl := by omega
  have hb0 := (Below.refl _ w).alloc (Nat.le_refl _) (.cells #[.slice ha hl hc, .slice sa sl sc] 25)
  have hzc := heap_alloc_new w (.cells #[.slice ha hl hc, .slice sa sl sc] 25)
  have hsz : (w.alloc (.cells #[.slice ha hl hc, .slice sa sl sc] 25)).heap.size = w.heap.size + 1 := World.size_alloc _ _
  obtain ⟨X, hX⟩ : ∃ X, X = w.alloc (.cells #[.slice ha hl hc, .slice sa sl sc] 25) := ⟨_, rfl⟩
  rw [← hX] at hb0 hzc hsz
  have RC0 := Lib.hid hzc
  have YB0 := Lib.hid hb0
  have hwl0 : w.heap.size < X.heap.size := by omega
  have HH := Lib.hid hH
  have HS := Lib.hid hS
  have HT := Lib.hid hT
  have HX := Lib.hid hX
  clear hb0 hzc hsz hX hH hS hT
  go_enter Tryd.func4, Tryd.ntmps4
  go_wp2_with fail
  go_ret
  rw [← HX.out]
  exact ⟨rfl, YB0.out⟩
set_option maxRecDepth 100000 in
set_option maxHeartbeats 4000000 in
theorem listsW_great (ha : Option Addr) (hl hc : Nat) (sa : Option Addr) (sl sc : Nat) (H : Nat → Ho) (S : Nat → Se) (y x kd : Int) (hb : ¬ 20 < hl) (hg : 30 < sl) (w : World) (hH : HosAt w.heap.size w ha hl H) (hS : SeasAt w.heap.size w sa sl S) (hT : Tabs w) (hlm : hl ≤ maxLen) (slm : sl ≤ maxLen) :
    Calls Tryd.prog 4 #[calV ha hl hc sa sl sc, .int .i64 y, .int .i64 x, .int .i64 kd] w fun e w' => e = .returned (.bool true) ∧ Below w.heap.size w w' := by
  have hgi : ¬ (20 : Int) < hl := by omega
  have HG := Lib.hid (greatB_yes (hl := hl) (.inr hg))
  clear hg
  have hb0 := (Below.refl _ w).alloc (Nat.le_refl _) (.cells #[.slice ha hl hc, .slice sa sl sc] 25)
  have hzc := heap_alloc_new w (.cells #[.slice ha hl hc, .slice sa sl sc] 25)
  have hsz : (w.alloc (.cells #[.slice ha hl hc, .slice sa sl sc] 25)).heap.size = w.heap.size + 1 := World.size_alloc _ _
  obtain ⟨X, hX⟩ : ∃ X, X = w.alloc (.cells #[.slice ha hl hc, .slice sa sl sc] 25) := ⟨_, rfl⟩
  rw [← hX] at hb0 hzc hsz
  have RC0 := Lib.hid hzc
  have YB0 := Lib.hid hb0
  have hwl0 : w.heap.size < X.heap.size := by omega
  have HH := Lib.hid hH
  have HS := Lib.hid hS
  have HT := Lib.hid hT
  have HX := Lib.hid hX
  clear hb0 hzc hsz hX hH hS hT
  go_enter Tryd.func4, Tryd.ntmps4
  go_wp2_with fail
  rw [← HX.out]
  clear HX
  have HC := Lib.hid (great_any ha hl hc sa sl sc hlm slm X)
  rw [HG.out] at HC
  have k00 : X.cell? ⟨w.heap.size, 0, none⟩ = some (.slice ha hl hc) := cell_of_row _ _ 0 _ _ _ RC0.out
  have k01 : X.cell? ⟨w.heap.size, 1, none⟩ = some (.slice sa sl sc) := cell_of_row _ _ 1 _ _ _ RC0.out
  refine HC.out.mono ?_
  rintro e w1 ⟨rfl, hBn⟩
  have RC1 := Lib.hid ((hBn.block w.heap.size hwl0).trans RC0.out)
  have YB1 := Lib.hid (YB0.out.trans (hBn.mono YB0.out.size))
  have hwl1 : w.heap.size < w1.heap.size := Nat.lt_of_lt_of_le hwl0 hBn.size
  clear k00 k01 RC0 YB0 hwl0 hBn HC
  go_wp2
  go_ret
  exact ⟨rfl, YB1.out⟩
set_option maxRecDepth 100000 in
set_option maxHeartbeats 4000000 in
theorem listsW_out_bad_lo (ha : Option Addr) (hl hc : Nat) (sa : Option Addr) (sl sc : Nat) (H : Nat → Ho) (S : Nat → Se) (y x kd : Int) (hb : ¬ 20 < hl) (hg : ¬ 30 < sl) (hcal : ¬ CalIs H hl S sl) (hy : y < 1970) (w : World) (hH : HosAt w.heap.size w ha hl H) (hS : SeasAt w.heap.size w sa sl S) (hT : Tabs w) (hlm : hl ≤ maxLen) (slm : sl ≤ maxLen) :
    Calls Tryd.prog 4 #[calV ha hl hc sa sl sc, .int .i64 y, .int .i64 x, .int .i64 kd] w fun e w' => e = .returned (.bool true) ∧ Below w.heap.size w w' := by
  have hgi : ¬ (20 : Int) < hl := by omega
  have HG := Lib.hid (greatB_no (hl := hl) (sl := sl) (by omega))
  clear hg
  have HDC := Lib.hid (decide_eq_false hcal)
  have HCAL := Lib.hid hcal
  have HY := Lib.hid (show ¬ (1970 ≤ y ∧ y ≤ 9999) by omega)
  clear hcal
  have hb0 := (Below.refl _ w).alloc (Nat.le_refl _) (.cells #[.slice ha hl hc, .slice sa sl sc] 25)
  have hzc := heap_alloc_new w (.cells #[.slice ha hl hc, .slice sa sl sc] 25)
  have hsz : (w.alloc (.cells #[.slice ha hl hc, .slice sa sl sc] 25)).heap.size = w.heap.size + 1 := World.size_alloc _ _
  obtain ⟨X, hX⟩ : ∃ X, X = w.alloc (.cells #[.slice ha hl hc, .slice sa sl sc] 25) := ⟨_, rfl⟩
  rw [← hX] at hb0 hzc hsz
  have RC0 := Lib.hid hzc
  have YB0 := Lib.hid hb0
  have hwl0 : w.heap.size < X.heap.size := by omega
  have HH := Lib.hid hH
  have HS := Lib.hid hS
  have HT := Lib.hid hT
  have HX := Lib.hid hX
  clear hb0 hzc hsz hX hH hS hT
  go_enter Tryd.func4, Tryd.ntmps4
  go_wp2_with fail
  rw [← HX.out]
  clear HX
  have HC := Lib.hid (great_any ha hl hc sa sl sc hlm slm X)
  rw [HG.out] at HC
  have k00 : X.cell? ⟨w.heap.size, 0, none⟩ = some (.slice ha hl hc) := cell_of_row _ _ 0 _ _ _ RC0.out
  have k01 : X.cell? ⟨w.heap.size, 1, none⟩ = some (.slice sa sl sc) := cell_of_row _ _ 1 _ _ _ RC0.out
  refine HC.out.mono ?_
  rintro e w1 ⟨rfl, hBn⟩
  have RC1 := Lib.hid ((hBn.block w.heap.size hwl0).trans RC0.out)
  have YB1 := Lib.hid (YB0.out.trans (hBn.mono YB0.out.size))
  have hwl1 : w.heap.size < w1.heap.size := Nat.lt_of_lt_of_le hwl0 hBn.size
  clear k00 k01 RC0 YB0 hwl0 hBn HC
  have HC := Lib.hid (list_bad ha hl hc sa sl sc H S y HCAL.out w1 ((HH.out.next YB1.out (Nat.le_refl _) (Nat.le_refl _)).mono YB1.out.size) ((HS.out.next YB1.out (Nat.le_refl _) (Nat.le_refl _)).mono YB1.out.size) (HT.out.next YB1.out) hlm slm)
  have k10 : w1.cell? ⟨w.heap.size, 0, none⟩ = some (.slice ha hl hc) := cell_of_row _ _ 0 _ _ _ RC1.out
  have k11 : w1.cell? ⟨w.heap.size, 1, none⟩ = some (.slice sa sl sc) := cell_of_row _ _ 1 _ _ _ RC1.out
  go_wp2_with fail
  refine HC.out.mono ?_
  rintro e w2 ⟨rfl, hBn⟩
  have RC2 := Lib.hid ((hBn.block w.heap.size hwl1).trans RC1.out)
  have YB2 := Lib.hid (YB1.out.trans (hBn.mono YB1.out.size))
  have hwl2 : w.heap.size < w2.heap.size := Nat.lt_of_lt_of_le hwl1 hBn.size
  clear k10 k11 RC1 YB1 hwl1 hBn HC
  have HC := Lib.hid (easter_no y HY.out w2)
  have k20 : w2.cell? ⟨w.heap.size, 0, none⟩ = some (.slice ha hl hc) := cell_of_row _ _ 0 _ _ _ RC2.out
  have k21 : w2.cell? ⟨w.heap.size, 1, none⟩ = some (.slice sa sl sc) := cell_of_row _ _ 1 _ _ _ RC2.out
  go_wp2_with fail
  refine HC.out.mono ?_
  rintro e w3 ⟨rfl, hBn⟩
  have RC3 := Lib.hid ((hBn.block w.heap.size hwl2).trans RC2.out)
  have YB3 := Lib.hid (YB2.out.trans (hBn.mono YB2.out.size))
  have hwl3 : w.heap.size < w3.heap.size := Nat.lt_of_lt_of_le hwl2 hBn.size
  clear k20 k21 RC2 YB2 hwl2 hBn HC
  have hr4 := heap_old RC3.out (.cells #[.int .i64 0, .int .i64 0, .int .i64 0] 39)
  have hb4 := YB3.out.alloc YB3.out.size (.cells #[.int .i64 0, .int .i64 0, .int .i64 0] 39)
  have hs4 : (w3.alloc (.cells #[.int .i64 0, .int .i64 0, .int .i64 0] 39)).heap.size = w3.heap.size + 1 := World.size_alloc _ _
  have k40 : (w3.alloc (.cells #[.int .i64 0, .int .i64 0, .int .i64 0] 39)).cell? ⟨w.heap.size, 0, none⟩ = some (.slice ha hl hc) := cell_of_row _ _ 0 _ _ _ hr4
  have k41 : (w3.alloc (.cells #[.int .i64 0, .int .i64 0, .int .i64 0] 39)).cell? ⟨w.heap.size, 1, none⟩ = some (.slice sa sl sc) := cell_of_row _ _ 1 _ _ _ hr4
  go_wp2_with fail
  clear k40 k41
  obtain ⟨w4, hw4⟩ : ∃ X, w3.alloc (.cells #[.int .i64 0, .int .i64 0, .int .i64 0] 39) = X := ⟨_, rfl⟩
  rw [hw4] at hr4 hb4 hs4 ⊢
  have RC4 := Lib.hid hr4
  have YB4 := Lib.hid hb4
  have hwl4 : w.heap.size < w4.heap.size := by omega
  clear hr4 hb4 hs4 hw4 RC3 YB3 hwl3
  have HC := Lib.hid (rMay_any ha hl hc sa sl sc H S w4 ((HH.out.next YB4.out (Nat.le_refl _) (Nat.le_refl _)).mono YB4.out.size) ((HS.out.next YB4.out (Nat.le_refl _) (Nat.le_refl _)).mono YB4.out.size) hlm slm)
  rw [HDC.out] at HC
  have k40 : w4.cell? ⟨w.heap.size, 0, none⟩ = some (.slice ha hl hc) := cell_of_row _ _ 0 _ _ _ RC4.out
  have k41 : w4.cell? ⟨w.heap.size, 1, none⟩ = some (.slice sa sl sc) := cell_of_row _ _ 1 _ _ _ RC4.out
  refine HC.out.mono ?_
  rintro e w5 ⟨rfl, hBn⟩
  have RC5 := Lib.hid ((hBn.block w.heap.size hwl4).trans RC4.out)
  have YB5 := Lib.hid (YB4.out.trans (hBn.mono YB4.out.size))
  have hwl5 : w.heap.size < w5.heap.size := Nat.lt_of_lt_of_le hwl4 hBn.size
  clear k40 k41 RC4 YB4 hwl4 hBn HC
  go_wp2
  go_ret
  exact ⟨rfl, YB5.out⟩
set_option maxRecDepth 100000 in
set_option maxHeartbeats 4000000 in
theorem listsW_out_bad_hi (ha : Option Addr) (hl hc : Nat) (sa : Option Addr) (sl sc : Nat) (H : Nat → Ho) (S : Nat → Se) (y x kd : Int) (hb : ¬ 20 < hl) (hg : ¬ 30 < sl) (hcal : ¬ CalIs H hl S sl) (hy : 9999 < y) (w : World) (hH : HosAt w.heap.size w ha hl H) (hS : SeasAt w.heap.size w sa sl S) (hT : Tabs w) (hlm : hl ≤ maxLen) (slm : sl ≤ maxLen) :
    Calls Tryd.prog 4 #[calV ha hl hc sa sl sc, .int .i64 y, .int .i64 x, .int .i64 kd] w fun e w' => e = .returned (.bool true) ∧ Below w.heap.size w w' := by
  have hgi : ¬ (20 : Int) < hl := by omega
  have HG := Lib.hid (greatB_no (hl := hl) (sl := sl) (by omega))
  clear hg
  have HDC := Lib.hid (decide_eq_false hcal)
  have HCAL := Lib.hid hcal
  have HY := Lib.hid (show ¬ (1970 ≤ y ∧ y ≤ 9999) by omega)
  have hy2 : ¬ y < 1970 := by omega
  clear hcal
  have hb0 := (Below.refl _ w).alloc (Nat.le_refl _) (.cells #[.slice ha hl hc, .slice sa sl sc] 25)
  have hzc := heap_alloc_new w (.cells #[.slice ha hl hc, .slice sa sl sc] 25)
  have hsz : (w.alloc (.cells #[.slice ha hl hc, .slice sa sl sc] 25)).heap.size = w.heap.size + 1 := World.size_alloc _ _
  obtain ⟨X, hX⟩ : ∃ X, X = w.alloc (.cells #[.slice ha hl hc, .slice sa sl sc] 25) := ⟨_, rfl⟩
  rw [← hX] at hb0 hzc hsz
  have RC0 := Lib.hid hzc
  have YB0 := Lib.hid hb0
  have hwl0 : w.heap.size < X.heap.size := by omega
  have HH := Lib.hid hH
  have HS := Lib.hid hS
  have HT := Lib.hid hT
  have HX := Lib.hid hX
  clear hb0 hzc hsz hX hH hS hT
  go_enter Tryd.func4, Tryd.ntmps4
  go_wp2_with fail
  rw [← HX.out]
  clear HX
  have HC := Lib.hid (great_any ha hl hc sa sl sc hlm slm X)
  rw [HG.out] at HC
  have k00 : X.cell? ⟨w.heap.size, 0, none⟩ = some (.slice ha hl hc) := cell_of_row _ _ 0 _ _ _ RC0.out
  have k01 : X.cell? ⟨w.heap.size, 1, none⟩ = some (.slice sa sl sc) := cell_of_row _ _ 1 _ _ _ RC0.out
  refine HC.out.mono ?_
  rintro e w1 ⟨rfl, hBn⟩
  have RC1 := Lib.hid ((hBn.block w.heap.size hwl0).trans RC0.out)
  have YB1 := Lib.hid (YB0.out.trans (hBn.mono YB0.out.size))
  have hwl1 : w.heap.size < w1.heap.size := Nat.lt_of_lt_of_le hwl0 hBn.size
  clear k00 k01 RC0 YB0 hwl0 hBn HC
  have HC := Lib.hid (list_bad ha hl hc sa sl sc H S y HCAL.out w1 ((HH.out.next YB1.out (Nat.le_refl _) (Nat.le_refl _)).mono YB1.out.size) ((HS.out.next YB1.out (Nat.le_refl _) (Nat.le_refl _)).mono YB1.out.size) (HT.out.next YB1.out) hlm slm)
  have k10 : w1.cell? ⟨w.heap.size, 0, none⟩ = some (.slice ha hl hc) := cell_of_row _ _ 0 _ _ _ RC1.out
  have k11 : w1.cell? ⟨w.heap.size, 1, none⟩ = some (.slice sa sl sc) := cell_of_row _ _ 1 _ _ _ RC1.out
  go_wp2_with fail
  refine HC.out.mono ?_
  rintro e w2 ⟨rfl, hBn⟩
  have RC2 := Lib.hid ((hBn.block w.heap.size hwl1).trans RC1.out)
  have YB2 := Lib.hid (YB1.out.trans (hBn.mono YB1.out.size))
  have hwl2 : w.heap.size < w2.heap.size := Nat.lt_of_lt_of_le hwl1 hBn.size
  clear k10 k11 RC1 YB1 hwl1 hBn HC
  have HC := Lib.hid (easter_no y HY.out w2)
  have k20 : w2.cell? ⟨w.heap.size, 0, none⟩ = some (.slice ha hl hc) := cell_of_row _ _ 0 _ _ _ RC2.out
  have k21 : w2.cell? ⟨w.heap.size, 1, none⟩ = some (.slice sa sl sc) := cell_of_row _ _ 1 _ _ _ RC2.out
  go_wp2_with fail
  refine HC.out.mono ?_
  rintro e w3 ⟨rfl, hBn⟩
  have RC3 := Lib.hid ((hBn.block w.heap.size hwl2).trans RC2.out)
  have YB3 := Lib.hid (YB2.out.trans (hBn.mono YB2.out.size))
  have hwl3 : w.heap.size < w3.heap.size := Nat.lt_of_lt_of_le hwl2 hBn.size
  clear k20 k21 RC2 YB2 hwl2 hBn HC
  have hr4 := heap_old RC3.out (.cells #[.int .i64 0, .int .i64 0, .int .i64 0] 39)
  have hb4 := YB3.out.alloc YB3.out.size (.cells #[.int .i64 0, .int .i64 0, .int .i64 0] 39)
  have hs4 : (w3.alloc (.cells #[.int .i64 0, .int .i64 0, .int .i64 0] 39)).heap.size = w3.heap.size + 1 := World.size_alloc _ _
  have k40 : (w3.alloc (.cells #[.int .i64 0, .int .i64 0, .int .i64 0] 39)).cell? ⟨w.heap.size, 0, none⟩ = some (.slice ha hl hc) := cell_of_row _ _ 0 _ _ _ hr4
  have k41 : (w3.alloc (.cells #[.int .i64 0, .int .i64 0, .int .i64 0] 39)).cell? ⟨w.heap.size, 1, none⟩ = some (.slice sa sl sc) := cell_of_row _ _ 1 _ _ _ hr4
  go_wp2_with fail
  clear k40 k41
  obtain ⟨w4, hw4⟩ : ∃ X, w3.alloc (.cells #[.int .i64 0, .int .i64 0, .int .i64 0] 39) = X := ⟨_, rfl⟩
  rw [hw4] at hr4 hb4 hs4 ⊢
  have RC4 := Lib.hid hr4
  have YB4 := Lib.hid hb4
  have hwl4 : w.heap.size < w4.heap.size := by omega
  clear hr4 hb4 hs4 hw4 RC3 YB3 hwl3
  have HC := Lib.hid (rMay_any ha hl hc sa sl sc H S w4 ((HH.out.next YB4.out (Nat.le_refl _) (Nat.le_refl _)).mono YB4.out.size) ((HS.out.next YB4.out (Nat.le_refl _) (Nat.le_refl _)).mono YB4.out.size) hlm slm)
  rw [HDC.out] at HC
  have k40 : w4.cell? ⟨w.heap.size, 0, none⟩ = some (.slice ha hl hc) := cell_of_row _ _ 0 _ _ _ RC4.out
  have k41 : w4.cell? ⟨w.heap.size, 1, none⟩ = some (.slice sa sl sc) := cell_of_row _ _ 1 _ _ _ RC4.out
  refine HC.out.mono ?_
  rintro e w5 ⟨rfl, hBn⟩
  have RC5 := Lib.hid ((hBn.block w.heap.size hwl4).trans RC4.out)
  have YB5 := Lib.hid (YB4.out.trans (hBn.mono YB4.out.size))
  have hwl5 : w.heap.size < w5.heap.size := Nat.lt_of_lt_of_le hwl4 hBn.size
  clear k40 k41 RC4 YB4 hwl4 hBn HC
  go_wp2
  go_ret
  exact ⟨rfl, YB5.out⟩
set_option maxRecDepth 100000 in
set_option maxHeartbeats 4000000 in
theorem listsW_out_no_lo (ha : Option Addr) (hl hc : Nat) (sa : Option Addr) (sl sc : Nat) (H : Nat → Ho) (S : Nat → Se) (y x kd : Int) (hb : ¬ 20 < hl) (hg : ¬ 30 < sl) (hcal : CalIs H hl S sl) (hy : y < 1970) (w : World) (hH : HosAt w.heap.size w ha hl H) (hS : SeasAt w.heap.size w sa sl S) (hT : Tabs w) (hlm : hl ≤ maxLen) (slm : sl ≤ maxLen) :
    Calls Tryd.prog 4 #[calV ha hl hc sa sl sc, .int .i64 y, .int .i64 x, .int .i64 kd] w fun e w' => e = .returned (.bool true) ∧ Below w.heap.size w w' := by
  have hgi : ¬ (20 : Int) < hl := by omega
  have HG := Lib.hid (greatB_no (hl := hl) (sl := sl) (by omega))
  clear hg
  have HDC := Lib.hid (decide_eq_true hcal)
  have HCAL := Lib.hid hcal
  have HY := Lib.hid (show ¬ (1970 ≤ y ∧ y ≤ 9999) by omega)
  clear hcal
  have hb0 := (Below.refl _ w).alloc (Nat.le_refl _) (.cells #[.slice ha hl hc, .slice sa sl sc] 25)
  have hzc := heap_alloc_new w (.cells #[.slice ha hl hc, .slice sa sl sc] 25)
  have hsz : (w.alloc (.cells #[.slice ha hl hc, .slice sa sl sc] 25)).heap.size = w.heap.size + 1 := World.size_alloc _ _
  obtain ⟨X, hX⟩ : ∃ X, X = w.alloc (.cells #[.slice ha hl hc, .slice sa sl sc] 25) := ⟨_, rfl⟩
  rw [← hX] at hb0 hzc hsz
  have RC0 := Lib.hid hzc
  have YB0 := Lib.hid hb0
  have hwl0 : w.heap.size < X.heap.size := by omega
  have HH := Lib.hid hH
  have HS := Lib.hid hS
  have HT := Lib.hid hT
  have HX := Lib.hid hX
  clear hb0 hzc hsz hX hH hS hT
  go_enter Tryd.func4, Tryd.ntmps4
  go_wp2_with fail
  rw [← HX.out]
  clear HX
  have HC := Lib.hid (great_any ha hl hc sa sl sc hlm slm X)
  rw [HG.out] at HC
  have k00 : X.cell? ⟨w.heap.size, 0, none⟩ = some (.slice ha hl hc) := cell_of_row _ _ 0 _ _ _ RC0.out
  have k01 : X.cell? ⟨w.heap.size, 1, none⟩ = some (.slice sa sl sc) := cell_of_row _ _ 1 _ _ _ RC0.out
  refine HC.out.mono ?_
  rintro e w1 ⟨rfl, hBn⟩
  have RC1 := Lib.hid ((hBn.block w.heap.size hwl0).trans RC0.out)
  have YB1 := Lib.hid (YB0.out.trans (hBn.mono YB0.out.size))
  have hwl1 : w.heap.size < w1.heap.size := Nat.lt_of_lt_of_le hwl0 hBn.size
  clear k00 k01 RC0 YB0 hwl0 hBn HC
  have HC := Lib.hid (list_no ha hl hc sa sl sc H S y HCAL.out HY.out w1 ((HH.out.next YB1.out (Nat.le_refl _) (Nat.le_refl _)).mono YB1.out.size) ((HS.out.next YB1.out (Nat.le_refl _) (Nat.le_refl _)).mono YB1.out.size) (HT.out.next YB1.out) hlm slm)
  have k10 : w1.cell? ⟨w.heap.size, 0, none⟩ = some (.slice ha hl hc) := cell_of_row _ _ 0 _ _ _ RC1.out
  have k11 : w1.cell? ⟨w.heap.size, 1, none⟩ = some (.slice sa sl sc) := cell_of_row _ _ 1 _ _ _ RC1.out
  go_wp2_with fail
  refine HC.out.mono ?_
  rintro e w2 ⟨rfl, hBn⟩
  have RC2 := Lib.hid ((hBn.block w.heap.size hwl1).trans RC1.out)
  have YB2 := Lib.hid (YB1.out.trans (hBn.mono YB1.out.size))
  have hwl2 : w.heap.size < w2.heap.size := Nat.lt_of_lt_of_le hwl1 hBn.size
  clear k10 k11 RC1 YB1 hwl1 hBn HC
  have HC := Lib.hid (easter_no y HY.out w2)
  have k20 : w2.cell? ⟨w.heap.size, 0, none⟩ = some (.slice ha hl hc) := cell_of_row _ _ 0 _ _ _ RC2.out
  have k21 : w2.cell? ⟨w.heap.size, 1, none⟩ = some (.slice sa sl sc) := cell_of_row _ _ 1 _ _ _ RC2.out
  go_wp2_with fail
  refine HC.out.mono ?_
  rintro e w3 ⟨rfl, hBn⟩
  have RC3 := Lib.hid ((hBn.block w.heap.size hwl2).trans RC2.out)
  have YB3 := Lib.hid (YB2.out.trans (hBn.mono YB2.out.size))
  have hwl3 : w.heap.size < w3.heap.size := Nat.lt_of_lt_of_le hwl2 hBn.size
  clear k20 k21 RC2 YB2 hwl2 hBn HC
  have hr4 := heap_old RC3.out (.cells #[.int .i64 0, .int .i64 0, .int .i64 0] 39)
  have hb4 := YB3.out.alloc YB3.out.size (.cells #[.int .i64 0, .int .i64 0, .int .i64 0] 39)
  have hs4 : (w3.alloc (.cells #[.int .i64 0, .int .i64 0, .int .i64 0] 39)).heap.size = w3.heap.size + 1 := World.size_alloc _ _
  have k40 : (w3.alloc (.cells #[.int .i64 0, .int .i64 0, .int .i64 0] 39)).cell? ⟨w.heap.size, 0, none⟩ = some (.slice ha hl hc) := cell_of_row _ _ 0 _ _ _ hr4
  have k41 : (w3.alloc (.cells #[.int .i64 0, .int .i64 0, .int .i64 0] 39)).cell? ⟨w.heap.size, 1, none⟩ = some (.slice sa sl sc) := cell_of_row _ _ 1 _ _ _ hr4
  go_wp2_with fail
  clear k40 k41
  obtain ⟨w4, hw4⟩ : ∃ X, w3.alloc (.cells #[.int .i64 0, .int .i64 0, .int .i64 0] 39) = X := ⟨_, rfl⟩
  rw [hw4] at hr4 hb4 hs4 ⊢
  have RC4 := Lib.hid hr4
  have YB4 := Lib.hid hb4
  have hwl4 : w.heap.size < w4.heap.size := by omega
  clear hr4 hb4 hs4 hw4 RC3 YB3 hwl3
  have HC := Lib.hid (rMay_any ha hl hc sa sl sc H S w4 ((HH.out.next YB4.out (Nat.le_refl _) (Nat.le_refl _)).mono YB4.out.size) ((HS.out.next YB4.out (Nat.le_refl _) (Nat.le_refl _)).mono YB4.out.size) hlm slm)
  rw [HDC.out] at HC
  have k40 : w4.cell? ⟨w.heap.size, 0, none⟩ = some (.slice ha hl hc) := cell_of_row _ _ 0 _ _ _ RC4.out
  have k41 : w4.cell? ⟨w.heap.size, 1, none⟩ = some (.slice sa sl sc) := cell_of_row _ _ 1 _ _ _ RC4.out
  refine HC.out.mono ?_
  rintro e w5 ⟨rfl, hBn⟩
  have RC5 := Lib.hid ((hBn.block w.heap.size hwl4).trans RC4.out)
  have YB5 := Lib.hid (YB4.out.trans (hBn.mono YB4.out.size))
  have hwl5 : w.heap.size < w5.heap.size := Nat.lt_of_lt_of_le hwl4 hBn.size
  clear k40 k41 RC4 YB4 hwl4 hBn HC
  go_wp2
  go_ret
  exact ⟨rfl, YB5.out⟩
set_option maxRecDepth 100000 in
set_option maxHeartbeats 4000000 in
theorem listsW_out_no_hi (ha : Option Addr) (hl hc : Nat) (sa : Option Addr) (sl sc : Nat) (H : Nat → Ho) (S : Nat → Se) (y x kd : Int) (hb : ¬ 20 < hl) (hg : ¬ 30 < sl) (hcal : CalIs H hl S sl) (hy : 9999 < y) (w : World) (hH : HosAt w.heap.size w ha hl H) (hS : SeasAt w.heap.size w sa sl S) (hT : Tabs w) (hlm : hl ≤ maxLen) (slm : sl ≤ maxLen) :
    Calls Tryd.prog 4 #[calV ha hl hc sa sl sc, .int .i64 y, .int .i64 x, .int .i64 kd] w fun e w' => e = .returned (.bool true) ∧ Below w.heap.size w w' := by
  have hgi : ¬ (20 : Int) < hl := by omega
  have HG := Lib.hid (greatB_no (hl := hl) (sl := sl) (by omega))
  clear hg
  have HDC := Lib.hid (decide_eq_true hcal)
  have HCAL := Lib.hid hcal
  have HY := Lib.hid (show ¬ (1970 ≤ y ∧ y ≤ 9999) by omega)
  have hy2 : ¬ y < 1970 := by omega
  clear hcal
  have hb0 := (Below.refl _ w).alloc (Nat.le_refl _) (.cells #[.slice ha hl hc, .slice sa sl sc] 25)
  have hzc := heap_alloc_new w (.cells #[.slice ha hl hc, .slice sa sl sc] 25)
  have hsz : (w.alloc (.cells #[.slice ha hl hc, .slice sa sl sc] 25)).heap.size = w.heap.size + 1 := World.size_alloc _ _
  obtain ⟨X, hX⟩ : ∃ X, X = w.alloc (.cells #[.slice ha hl hc, .slice sa sl sc] 25) := ⟨_, rfl⟩
  rw [← hX] at hb0 hzc hsz
  have RC0 := Lib.hid hzc
  have YB0 := Lib.hid hb0
  have hwl0 : w.heap.size < X.heap.size := by omega
  have HH := Lib.hid hH
  have HS := Lib.hid hS
  have HT := Lib.hid hT
  have HX := Lib.hid hX
  clear hb0 hzc hsz hX hH hS hT
  go_enter Tryd.func4, Tryd.ntmps4
  go_wp2_with fail
  rw [← HX.out]
  clear HX
  have HC := Lib.hid (great_any ha hl hc sa sl sc hlm slm X)
  rw [HG.out] at HC
  have k00 : X.cell? ⟨w.heap.size, 0, none⟩ = some (.slice ha hl hc) := cell_of_row _ _ 0 _ _ _ RC0.out
  have k01 : X.cell? ⟨w.heap.size, 1, none⟩ = some (.slice sa sl sc) := cell_of_row _ _ 1 _ _ _ RC0.out
  refine HC.out.mono ?_
  rintro e w1 ⟨rfl, hBn⟩
  have RC1 := Lib.hid ((hBn.block w.heap.size hwl0).trans RC0.out)
  have YB1 := Lib.hid (YB0.out.trans (hBn.mono YB0.out.size))
  have hwl1 : w.heap.size < w1.heap.size := Nat.lt_of_lt_of_le hwl0 hBn.size
  clear k00 k01 RC0 YB0 hwl0 hBn HC
  have HC := Lib.hid (list_no ha hl hc sa sl sc H S y HCAL.out HY.out w1 ((HH.out.next YB1.out (Nat.le_refl _) (Nat.le_refl _)).mono YB1.out.size) ((HS.out.next YB1.out (Nat.le_refl _) (Nat.le_refl _)).mono YB1.out.size) (HT.out.next YB1.out) hlm slm)
  have k10 : w1.cell? ⟨w.heap.size, 0, none⟩ = some (.slice ha hl hc) := cell_of_row _ _ 0 _ _ _ RC1.out
  have k11 : w1.cell? ⟨w.heap.size, 1, none⟩ = some (.slice sa sl sc) := cell_of_row _ _ 1 _ _ _ RC1.out
  go_wp2_with fail
  refine HC.out.mono ?_
  rintro e w2 ⟨rfl, hBn⟩
  have RC2 := Lib.hid ((hBn.block w.heap.size hwl1).trans RC1.out)
  have YB2 := Lib.hid (YB1.out.trans (hBn.mono YB1.out.size))
  have hwl2 : w.heap.size < w2.heap.size := Nat.lt_of_lt_of_le hwl1 hBn.size
  clear k10 k11 RC1 YB1 hwl1 hBn HC
  have HC := Lib.hid (easter_no y HY.out w2)
  have k20 : w2.cell? ⟨w.heap.size, 0, none⟩ = some (.slice ha hl hc) := cell_of_row _ _ 0 _ _ _ RC2.out
  have k21 : w2.cell? ⟨w.heap.size, 1, none⟩ = some (.slice sa sl sc) := cell_of_row _ _ 1 _ _ _ RC2.out
  go_wp2_with fail
  refine HC.out.mono ?_
  rintro e w3 ⟨rfl, hBn⟩
  have RC3 := Lib.hid ((hBn.block w.heap.size hwl2).trans RC2.out)
  have YB3 := Lib.hid (YB2.out.trans (hBn.mono YB2.out.size))
  have hwl3 : w.heap.size < w3.heap.size := Nat.lt_of_lt_of_le hwl2 hBn.size
  clear k20 k21 RC2 YB2 hwl2 hBn HC
  have hr4 := heap_old RC3.out (.cells #[.int .i64 0, .int .i64 0, .int .i64 0] 39)
  have hb4 := YB3.out.alloc YB3.out.size (.cells #[.int .i64 0, .int .i64 0, .int .i64 0] 39)
  have hs4 : (w3.alloc (.cells #[.int .i64 0, .int .i64 0, .int .i64 0] 39)).heap.size = w3.heap.size + 1 := World.size_alloc _ _
  have k40 : (w3.alloc (.cells #[.int .i64 0, .int .i64 0, .int .i64 0] 39)).cell? ⟨w.heap.size, 0, none⟩ = some (.slice ha hl hc) := cell_of_row _ _ 0 _ _ _ hr4
  have k41 : (w3.alloc (.cells #[.int .i64 0, .int .i64 0, .int .i64 0] 39)).cell? ⟨w.heap.size, 1, none⟩ = some (.slice sa sl sc) := cell_of_row _ _ 1 _ _ _ hr4
  go_wp2_with fail
  clear k40 k41
  obtain ⟨w4, hw4⟩ : ∃ X, w3.alloc (.cells #[.int .i64 0, .int .i64 0, .int .i64 0] 39) = X := ⟨_, rfl⟩
  rw [hw4] at hr4 hb4 hs4 ⊢
  have RC4 := Lib.hid hr4
  have YB4 := Lib.hid hb4
  have hwl4 : w.heap.size < w4.heap.size := by omega
  clear hr4 hb4 hs4 hw4 RC3 YB3 hwl3
  have HC := Lib.hid (rMay_any ha hl hc sa sl sc H S w4 ((HH.out.next YB4.out (Nat.le_refl _) (Nat.le_refl _)).mono YB4.out.size) ((HS.out.next YB4.out (Nat.le_refl _) (Nat.le_refl _)).mono YB4.out.size) hlm slm)
  rw [HDC.out] at HC
  have k40 : w4.cell? ⟨w.heap.size, 0, none⟩ = some (.slice ha hl hc) := cell_of_row _ _ 0 _ _ _ RC4.out
  have k41 : w4.cell? ⟨w.heap.size, 1, none⟩ = some (.slice sa sl sc) := cell_of_row _ _ 1 _ _ _ RC4.out
  refine HC.out.mono ?_
  rintro e w5 ⟨rfl, hBn⟩
  have RC5 := Lib.hid ((hBn.block w.heap.size hwl4).trans RC4.out)
  have YB5 := Lib.hid (YB4.out.trans (hBn.mono YB4.out.size))
  have hwl5 : w.heap.size < w5.heap.size := Nat.lt_of_lt_of_le hwl4 hBn.size
  clear k40 k41 RC4 YB4 hwl4 hBn HC
  go_wp2
  go_ret
  exact ⟨rfl, YB5.out⟩
set_option maxRecDepth 100000 in
set_option maxHeartbeats 4000000 in
theorem listsW_bad (ha : Option Addr) (hl hc : Nat) (sa : Option Addr) (sl sc : Nat) (H : Nat → Ho) (S : Nat → Se) (y x kd : Int) (hb : ¬ 20 < hl) (hg : ¬ 30 < sl) (hcal : ¬ CalIs H hl S sl) (hy0 : 1970 ≤ y) (hy1 : y ≤ 9999) (w : World) (hH : HosAt w.heap.size w ha hl H) (hS : SeasAt w.heap.size w sa sl S) (hT : Tabs w) (hlm : hl ≤ maxLen) (slm : sl ≤ maxLen) :
    Calls Tryd.prog 4 #[calV ha hl hc sa sl sc, .int .i64 y, .int .i64 x, .int .i64 kd] w fun e w' => e = .returned (.bool true) ∧ Below w.heap.size w w' := by
  have hgi : ¬ (20 : Int) < hl := by omega
  have HG := Lib.hid (greatB_no (hl := hl) (sl := sl) (by omega))
  clear hg
  have hy2 : ¬ y < 1970 := by omega
  have hy3 : ¬ 9999 < y := by omega
  obtain ⟨em, hem⟩ : ∃ q, eaM y = q := ⟨_, rfl⟩
  obtain ⟨ed, hed⟩ : ∃ q, eaD y = q := ⟨_, rfl⟩
  have HEM := Lib.hid hem
  have HED := Lib.hid hed
  have qy : (y != y) = false := by simp
  have qm : (em != em) = false := by simp
  have qd : (ed != ed) = false := by simp
  clear hem hed
  have HDC := Lib.hid (decide_eq_false hcal)
  have HCAL := Lib.hid hcal
  clear hcal
  have hb0 := (Below.refl _ w).alloc (Nat.le_refl _) (.cells #[.slice ha hl hc, .slice sa sl sc] 25)
  have hzc := heap_alloc_new w (.cells #[.slice ha hl hc, .slice sa sl sc] 25)
  have hsz : (w.alloc (.cells #[.slice ha hl hc, .slice sa sl sc] 25)).heap.size = w.heap.size + 1 := World.size_alloc _ _
  obtain ⟨X, hX⟩ : ∃ X, X = w.alloc (.cells #[.slice ha hl hc, .slice sa sl sc] 25) := ⟨_, rfl⟩
  rw [← hX] at hb0 hzc hsz
  have RC0 := Lib.hid hzc
  have YB0 := Lib.hid hb0
  have hwl0 : w.heap.size < X.heap.size := by omega
  have HH := Lib.hid hH
  have HS := Lib.hid hS
  have HT := Lib.hid hT
  have HX := Lib.hid hX
  clear hb0 hzc hsz hX hH hS hT
  go_enter Tryd.func4, Tryd.ntmps4
  go_wp2_with fail
  rw [← HX.out]
  clear HX
  have HC := Lib.hid (great_any ha hl hc sa sl sc hlm slm X)
  rw [HG.out] at HC
  have k00 : X.cell? ⟨w.heap.size, 0, none⟩ = some (.slice ha hl hc) := cell_of_row _ _ 0 _ _ _ RC0.out
  have k01 : X.cell? ⟨w.heap.size, 1, none⟩ = some (.slice sa sl sc) := cell_of_row _ _ 1 _ _ _ RC0.out
  refine HC.out.mono ?_
  rintro e w1 ⟨rfl, hBn⟩
  have RC1 := Lib.hid ((hBn.block w.heap.size hwl0).trans RC0.out)
  have YB1 := Lib.hid (YB0.out.trans (hBn.mono YB0.out.size))
  have hwl1 : w.heap.size < w1.heap.size := Nat.lt_of_lt_of_le hwl0 hBn.size
  clear k00 k01 RC0 YB0 hwl0 hBn HC
  have HC := Lib.hid (list_bad ha hl hc sa sl sc H S y HCAL.out w1 ((HH.out.next YB1.out (Nat.le_refl _) (Nat.le_refl _)).mono YB1.out.size) ((HS.out.next YB1.out (Nat.le_refl _) (Nat.le_refl _)).mono YB1.out.size) (HT.out.next YB1.out) hlm slm)
  have k10 : w1.cell? ⟨w.heap.size, 0, none⟩ = some (.slice ha hl hc) := cell_of_row _ _ 0 _ _ _ RC1.out
  have k11 : w1.cell? ⟨w.heap.size, 1, none⟩ = some (.slice sa sl sc) := cell_of_row _ _ 1 _ _ _ RC1.out
  go_wp2_with fail
  refine HC.out.mono ?_
  rintro e w2 ⟨rfl, hBn⟩
  have RC2 := Lib.hid ((hBn.block w.heap.size hwl1).trans RC1.out)
  have YB2 := Lib.hid (YB1.out.trans (hBn.mono YB1.out.size))
  have hwl2 : w.heap.size < w2.heap.size := Nat.lt_of_lt_of_le hwl1 hBn.size
  clear k10 k11 RC1 YB1 hwl1 hBn HC
  have HC := Lib.hid (easter_yes y hy0 hy1 w2)
  rw [HEM.out, HED.out] at HC
  have k20 : w2.cell? ⟨w.heap.size, 0, none⟩ = some (.slice ha hl hc) := cell_of_row _ _ 0 _ _ _ RC2.out
  have k21 : w2.cell? ⟨w.heap.size, 1, none⟩ = some (.slice sa sl sc) := cell_of_row _ _ 1 _ _ _ RC2.out
  go_wp2_with fail
  refine HC.out.mono ?_
  rintro e w3 ⟨rfl, hBn⟩
  have RC3 := Lib.hid ((hBn.block w.heap.size hwl2).trans RC2.out)
  have YB3 := Lib.hid (YB2.out.trans (hBn.mono YB2.out.size))
  have hwl3 : w.heap.size < w3.heap.size := Nat.lt_of_lt_of_le hwl2 hBn.size
  clear k20 k21 RC2 YB2 hwl2 hBn HC
  have HC := Lib.hid (rEaster_any y hy0 hy1 (w3.alloc (.cells #[.int .i64 y, .int .i64 em, .int .i64 ed] 39)))
  rw [HEM.out, HED.out] at HC
  go_wp2_with fail
  refine HC.out.mono ?_
  rintro e w' ⟨rfl, rfl⟩
  clear HC
  have hr4 := heap_old RC3.out (.cells #[.int .i64 y, .int .i64 em, .int .i64 ed] 39)
  have hb4 := YB3.out.alloc YB3.out.size (.cells #[.int .i64 y, .int .i64 em, .int .i64 ed] 39)
  have hs4 : (w3.alloc (.cells #[.int .i64 y, .int .i64 em, .int .i64 ed] 39)).heap.size = w3.heap.size + 1 := World.size_alloc _ _
  have k40 : (w3.alloc (.cells #[.int .i64 y, .int .i64 em, .int .i64 ed] 39)).cell? ⟨w.heap.size, 0, none⟩ = some (.slice ha hl hc) := cell_of_row _ _ 0 _ _ _ hr4
  have k41 : (w3.alloc (.cells #[.int .i64 y, .int .i64 em, .int .i64 ed] 39)).cell? ⟨w.heap.size, 1, none⟩ = some (.slice sa sl sc) := cell_of_row _ _ 1 _ _ _ hr4
  go_wp2_with fail
  clear k40 k41
  obtain ⟨w4, hw4⟩ : ∃ X, w3.alloc (.cells #[.int .i64 y, .int .i64 em, .int .i64 ed] 39) = X := ⟨_, rfl⟩
  rw [hw4] at hr4 hb4 hs4 ⊢
  have RC4 := Lib.hid hr4
  have YB4 := Lib.hid hb4
  have hwl4 : w.heap.size < w4.heap.size := by omega
  clear hr4 hb4 hs4 hw4 RC3 YB3 hwl3
  have HC := Lib.hid (rMay_any ha hl hc sa sl sc H S w4 ((HH.out.next YB4.out (Nat.le_refl _) (Nat.le_refl _)).mono YB4.out.size) ((HS.out.next YB4.out (Nat.le_refl _) (Nat.le_refl _)).mono YB4.out.size) hlm slm)
  rw [HDC.out] at HC
  have k40 : w4.cell? ⟨w.heap.size, 0, none⟩ = some (.slice ha hl hc) := cell_of_row _ _ 0 _ _ _ RC4.out
  have k41 : w4.cell? ⟨w.heap.size, 1, none⟩ = some (.slice sa sl sc) := cell_of_row _ _ 1 _ _ _ RC4.out
  refine HC.out.mono ?_
  rintro e w5 ⟨rfl, hBn⟩
  have RC5 := Lib.hid ((hBn.block w.heap.size hwl4).trans RC4.out)
  have YB5 := Lib.hid (YB4.out.trans (hBn.mono YB4.out.size))
  have hwl5 : w.heap.size < w5.heap.size := Nat.lt_of_lt_of_le hwl4 hBn.size
  clear k40 k41 RC4 YB4 hwl4 hBn HC
  go_wp2
  go_ret
  exact ⟨rfl, YB5.out⟩
set_option maxRecDepth 100000 in
set_option maxHeartbeats 4000000 in
theorem listsW_yes (ha : Option Addr) (hl hc : Nat) (sa : Option Addr) (sl sc : Nat) (H : Nat → Ho) (S : Nat → Se) (y x kd : Int) (hb : ¬ 20 < hl) (hg : ¬ 30 < sl) (hcal : CalIs H hl S sl) (hy0 : 1970 ≤ y) (hy1 : y ≤ 9999) (w : World) (hH : HosAt w.heap.size w ha hl H) (hS : SeasAt w.heap.size w sa sl S) (hT : Tabs w) (hlm : hl ≤ maxLen) (slm : sl ≤ maxLen) :
    Calls Tryd.prog 4 #[calV ha hl hc sa sl sc, .int .i64 y, .int .i64 x, .int .i64 kd] w fun e w' => e = .returned (.bool true) ∧ Below w.heap.size w w' := by
  have hgi : ¬ (20 : Int) < hl := by omega
  have HG := Lib.hid (greatB_no (hl := hl) (sl := sl) (by omega))
  clear hg
  have hy2 : ¬ y < 1970 := by omega
  have hy3 : ¬ 9999 < y := by omega
  obtain ⟨em, hem⟩ : ∃ q, eaM y = q := ⟨_, rfl⟩
  obtain ⟨ed, hed⟩ : ∃ q, eaD y = q := ⟨_, rfl⟩
  have HEM := Lib.hid hem
  have HED := Lib.hid hed
  have qy : (y != y) = false := by simp
  have qm : (em != em) = false := by simp
  have qd : (ed != ed) = false := by simp
  clear hem hed
  have HDC := Lib.hid (decide_eq_true hcal)
  have HCAL := Lib.hid hcal
  clear hcal
  obtain ⟨E, hE⟩ : ∃ E, feastsE H y hl = E := ⟨_, rfl⟩
  have HPR := Lib.hid (show E.Pairwise (· < ·) by rw [← hE]; exact pair_feasts H y hl)
  have HE := Lib.hid hE
  have yd := year_days hy0 hy1
  obtain ⟨s0, hs0⟩ : ∃ q, ahead y = q := ⟨_, rfl⟩
  obtain ⟨t0, ht0⟩ : ∃ q, ahead (y + 1) - 1 = q := ⟨_, rfl⟩
  have HLO := Lib.hid (show ∀ q ∈ E, s0 ≤ q from fun q hq => by rw [← hE] at hq; have := feasts_in hy0 hy1 hq; omega)
  have HHI := Lib.hid (show ∀ q ∈ E, q < t0 + 1 from fun q hq => by rw [← hE] at hq; have := feasts_in hy0 hy1 hq; omega)
  have hst : s0 ≤ t0 + 1 := by omega
  have hs1 : 0 ≤ s0 := by omega
  have ht1 : t0 ≤ 2932896 := by omega
  have HS0 := Lib.hid hs0
  have HT0 := Lib.hid ht0
  clear hE hs0 ht0 yd
  have hb0 := (Below.refl _ w).alloc (Nat.le_refl _) (.cells #[.slice ha hl hc, .slice sa sl sc] 25)
  have hzc := heap_alloc_new w (.cells #[.slice ha hl hc, .slice sa sl sc] 25)
  have hsz : (w.alloc (.cells #[.slice ha hl hc, .slice sa sl sc] 25)).heap.size = w.heap.size + 1 := World.size_alloc _ _
  obtain ⟨X, hX⟩ : ∃ X, X = w.alloc (.cells #[.slice ha hl hc, .slice sa sl sc] 25) := ⟨_, rfl⟩
  rw [← hX] at hb0 hzc hsz
  have RC0 := Lib.hid hzc
  have YB0 := Lib.hid hb0
  have hwl0 : w.heap.size < X.heap.size := by omega
  have HH := Lib.hid hH
  have HS := Lib.hid hS
  have HT := Lib.hid hT
  have HX := Lib.hid hX
  clear hb0 hzc hsz hX hH hS hT
  go_enter Tryd.func4, Tryd.ntmps4
  go_wp2_with fail
  rw [← HX.out]
  clear HX
  have HC := Lib.hid (great_any ha hl hc sa sl sc hlm slm X)
  rw [HG.out] at HC
  have k00 : X.cell? ⟨w.heap.size, 0, none⟩ = some (.slice ha hl hc) := cell_of_row _ _ 0 _ _ _ RC0.out
  have k01 : X.cell? ⟨w.heap.size, 1, none⟩ = some (.slice sa sl sc) := cell_of_row _ _ 1 _ _ _ RC0.out
  refine HC.out.mono ?_
  rintro e w1 ⟨rfl, hBn⟩
  have RC1 := Lib.hid ((hBn.block w.heap.size hwl0).trans RC0.out)
  have YB1 := Lib.hid (YB0.out.trans (hBn.mono YB0.out.size))
  have hwl1 : w.heap.size < w1.heap.size := Nat.lt_of_lt_of_le hwl0 hBn.size
  clear k00 k01 RC0 YB0 hwl0 hBn HC
  have HC := Lib.hid (list_yes ha hl hc sa sl sc H S y HCAL.out ⟨hy0, hy1⟩ w1 ((HH.out.next YB1.out (Nat.le_refl _) (Nat.le_refl _)).mono YB1.out.size) ((HS.out.next YB1.out (Nat.le_refl _) (Nat.le_refl _)).mono YB1.out.size) (HT.out.next YB1.out) hlm slm)
  rw [HE.out] at HC
  have k10 : w1.cell? ⟨w.heap.size, 0, none⟩ = some (.slice ha hl hc) := cell_of_row _ _ 0 _ _ _ RC1.out
  have k11 : w1.cell? ⟨w.heap.size, 1, none⟩ = some (.slice sa sl sc) := cell_of_row _ _ 1 _ _ _ RC1.out
  go_wp2_with fail
  refine HC.out.mono ?_
  rintro e w2 ⟨⟨v, rfl, hla⟩, hBn⟩
  have RC2 := Lib.hid ((hBn.block w.heap.size hwl1).trans RC1.out)
  have YB2 := Lib.hid (YB1.out.trans (hBn.mono YB1.out.size))
  have hwl2 : w.heap.size < w2.heap.size := Nat.lt_of_lt_of_le hwl1 hBn.size
  obtain ⟨la, lc, rfl⟩ := hla.form
  obtain ⟨L, hL⟩ : ∃ L, E.length = L := ⟨_, rfl⟩
  rw [hL] at hla ⊢
  have hLm := feasts_len H y hl
  rw [HE.out, hL] at hLm
  have LA2 := Lib.hid (hla.mono (Nat.zero_le _))
  have HL := Lib.hid hL
  clear hla hL
  clear k10 k11 RC1 YB1 hwl1 hBn HC
  have HC := Lib.hid (easter_yes y hy0 hy1 w2)
  rw [HEM.out, HED.out] at HC
  have k20 : w2.cell? ⟨w.heap.size, 0, none⟩ = some (.slice ha hl hc) := cell_of_row _ _ 0 _ _ _ RC2.out
  have k21 : w2.cell? ⟨w.heap.size, 1, none⟩ = some (.slice sa sl sc) := cell_of_row _ _ 1 _ _ _ RC2.out
  go_wp2_with fail
  refine HC.out.mono ?_
  rintro e w3 ⟨rfl, hBn⟩
  have RC3 := Lib.hid ((hBn.block w.heap.size hwl2).trans RC2.out)
  have YB3 := Lib.hid (YB2.out.trans (hBn.mono YB2.out.size))
  have hwl3 : w.heap.size < w3.heap.size := Nat.lt_of_lt_of_le hwl2 hBn.size
  have LA3 := Lib.hid (LA2.out.next hBn (Nat.le_refl _))
  clear LA2
  clear k20 k21 RC2 YB2 hwl2 hBn HC
  have HC := Lib.hid (rEaster_any y hy0 hy1 (w3.alloc (.cells #[.int .i64 y, .int .i64 em, .int .i64 ed] 39)))
  rw [HEM.out, HED.out] at HC
  go_wp2_with fail
  refine HC.out.mono ?_
  rintro e w' ⟨rfl, rfl⟩
  clear HC
  have hr4 := heap_old RC3.out (.cells #[.int .i64 y, .int .i64 em, .int .i64 ed] 39)
  have hb4 := YB3.out.alloc YB3.out.size (.cells #[.int .i64 y, .int .i64 em, .int .i64 ed] 39)
  have hs4 : (w3.alloc (.cells #[.int .i64 y, .int .i64 em, .int .i64 ed] 39)).heap.size = w3.heap.size + 1 := World.size_alloc _ _
  have k40 : (w3.alloc (.cells #[.int .i64 y, .int .i64 em, .int .i64 ed] 39)).cell? ⟨w.heap.size, 0, none⟩ = some (.slice ha hl hc) := cell_of_row _ _ 0 _ _ _ hr4
  have k41 : (w3.alloc (.cells #[.int .i64 y, .int .i64 em, .int .i64 ed] 39)).cell? ⟨w.heap.size, 1, none⟩ = some (.slice sa sl sc) := cell_of_row _ _ 1 _ _ _ hr4
  go_wp2_with fail
  clear k40 k41
  obtain ⟨w4, hw4⟩ : ∃ X, w3.alloc (.cells #[.int .i64 y, .int .i64 em, .int .i64 ed] 39) = X := ⟨_, rfl⟩
  rw [hw4] at hr4 hb4 hs4 ⊢
  have hl4 := LA3.out.next ((Below.refl _ w3).alloc (Nat.le_refl _) (.cells #[.int .i64 y, .int .i64 em, .int .i64 ed] 39)) (Nat.le_refl _)
  rw [hw4] at hl4
  have LA4 := Lib.hid hl4
  clear hl4 LA3
  have RC4 := Lib.hid hr4
  have YB4 := Lib.hid hb4
  have hwl4 : w.heap.size < w4.heap.size := by omega
  clear hr4 hb4 hs4 hw4 RC3 YB3 hwl3
  have HC := Lib.hid (rMay_any ha hl hc sa sl sc H S w4 ((HH.out.next YB4.out (Nat.le_refl _) (Nat.le_refl _)).mono YB4.out.size) ((HS.out.next YB4.out (Nat.le_refl _) (Nat.le_refl _)).mono YB4.out.size) hlm slm)
  rw [HDC.out] at HC
  have k40 : w4.cell? ⟨w.heap.size, 0, none⟩ = some (.slice ha hl hc) := cell_of_row _ _ 0 _ _ _ RC4.out
  have k41 : w4.cell? ⟨w.heap.size, 1, none⟩ = some (.slice sa sl sc) := cell_of_row _ _ 1 _ _ _ RC4.out
  refine HC.out.mono ?_
  rintro e w5 ⟨rfl, hBn⟩
  have RC5 := Lib.hid ((hBn.block w.heap.size hwl4).trans RC4.out)
  have YB5 := Lib.hid (YB4.out.trans (hBn.mono YB4.out.size))
  have hwl5 : w.heap.size < w5.heap.size := Nat.lt_of_lt_of_le hwl4 hBn.size
  have LA5 := Lib.hid (LA4.out.next hBn (Nat.le_refl _))
  clear LA4
  clear k40 k41 RC4 YB4 hwl4 hBn HC
  have HC := Lib.hid (rday_any y 1 1 w5)
  rw [(day_11 hy0 hy1).1, (day_11 hy0 hy1).2, HS0.out] at HC
  go_wp2_with fail
  refine HC.out.mono ?_
  rintro e w' ⟨rfl, rfl⟩
  clear HC
  have HC := Lib.hid (rday_any y 12 31 w5)
  rw [(day_1231 hy0 hy1).1, (day_1231 hy0 hy1).2, HT0.out] at HC
  go_wp2_with fail
  refine HC.out.mono ?_
  rintro e w' ⟨rfl, rfl⟩
  clear HC
  go_wp2_with fail
  go_loopw [20, 21] (fun a i wr => ∃ (k : Nat) (n : Int), a = .int .i64 k ∧ i = .int .i64 n ∧ (s0 ≤ n ∧ n ≤ t0 + 1) ∧ Pass E n k ∧ ListAt 0 wr (.slice la L lc) E ∧ Below w.heap.size w wr ∧ wr.heap[w.heap.size]? = some (.cells #[.slice ha hl hc, .slice sa sl sc] 25)) (fun _ i _ => (t0 + 1 - intOf i).toNat)
  case atStart => exact ⟨0, s0, rfl, rfl, ⟨Int.le_refl _, hst⟩, Pass.start HLO.out, LA5.out, YB5.out, RC5.out⟩
  case round =>
    clear RC5 YB5 hwl5 LA5
    obtain ⟨k, n, rfl, rfl, ⟨hn0, hn1⟩, hps, hla, hb, hr⟩ := hrel
    obtain ⟨w6, rfl⟩ : ∃ w6 : World, w6 = wr := ⟨_, rfl⟩
    have hwl6 : w.heap.size < w6.heap.size := (Array.getElem?_eq_some_iff.1 hr).1
    have YB6 := Lib.hid hb
    have RC6 := Lib.hid hr
    have LA6 := Lib.hid hla
    have HPS := Lib.hid hps
    have hkL : k ≤ L := by rw [← HL.out]; exact hps.1
    clear hb hr hla hps
    by_cases h1 : n ≤ t0
    · by_cases hf : n ∈ E
      · have HF := Lib.hid (decide_eq_true hf)
        obtain ⟨hk1, hk2, hk3⟩ := HPS.out.hit HPR.out hf
        rw [HL.out] at hk1
        have HK2 := Lib.hid hk2
        have HK3 := Lib.hid hk3
        have hki : (k : Int) < L := by omega
        have hki2 : ¬ (L : Int) ≤ k := by omega
        have qn : (n != n) = false := by simp
        clear hf hk2 hk3
        have HC := Lib.hid (rIs_in ha hl hc sa sl sc H n y hy0 hy1 (by rw [HS0.out]; exact hn0) (by have := HT0.out; omega) HCAL.out.2.2.1 w6 ((HH.out.next YB6.out (Nat.le_refl _) (Nat.le_refl _)).mono YB6.out.size) HCAL.out.1)
        rw [HE.out, HF.out] at HC
        have k60 : w6.cell? ⟨w.heap.size, 0, none⟩ = some (.slice ha hl hc) := cell_of_row _ _ 0 _ _ _ RC6.out
        have k61 : w6.cell? ⟨w.heap.size, 1, none⟩ = some (.slice sa sl sc) := cell_of_row _ _ 1 _ _ _ RC6.out
        go_wp2_with fail
        refine HC.out.mono ?_
        rintro e w7 ⟨rfl, hBn⟩
        have RC7 := Lib.hid ((hBn.block w.heap.size hwl6).trans RC6.out)
        have YB7 := Lib.hid (YB6.out.trans (hBn.mono YB6.out.size))
        have hwl7 : w.heap.size < w7.heap.size := Nat.lt_of_lt_of_le hwl6 hBn.size
        have LA7 := Lib.hid (LA6.out.next hBn (Nat.le_refl _))
        clear LA6
        clear k60 k61 RC6 YB6 hwl6 hBn HC
        obtain ⟨g, rfl, hcl⟩ : ∃ g, la = some ⟨g, 0, none⟩ ∧ w7.cell? ⟨g, k, none⟩ = some (.int .i64 n) := by
          rcases LA7.out with ⟨e, _⟩ | ⟨g, c, e, _, _, _, h⟩
          · have := HL.out; rw [e] at this; simp at this; omega
          · have e' := Value.slice.inj e
            exact ⟨g, e'.1, by rw [h k (by rw [HL.out]; exact hk1), HK2.out]⟩
        have hcl2 : w7.cell? ⟨g, 0 + k, none⟩ = some (.int .i64 n) := by rw [Nat.zero_add]; exact hcl
        go_wp2
        go_roundw
        case rel => exact ⟨k + 1, n + 1, by go_num, by go_num, ⟨by omega, by omega⟩, HK3.out, LA7.out, YB7.out, RC7.out⟩
        case measure => first | (simp [intOf]; done) | (simp [intOf]; omega)
      · have HF := Lib.hid (decide_eq_false hf)
        have HK3 := Lib.hid (HPS.out.skip hf)
        clear hf
        have HC := Lib.hid (rIs_in ha hl hc sa sl sc H n y hy0 hy1 (by rw [HS0.out]; exact hn0) (by have := HT0.out; omega) HCAL.out.2.2.1 w6 ((HH.out.next YB6.out (Nat.le_refl _) (Nat.le_refl _)).mono YB6.out.size) HCAL.out.1)
        rw [HE.out, HF.out] at HC
        have k60 : w6.cell? ⟨w.heap.size, 0, none⟩ = some (.slice ha hl hc) := cell_of_row _ _ 0 _ _ _ RC6.out
        have k61 : w6.cell? ⟨w.heap.size, 1, none⟩ = some (.slice sa sl sc) := cell_of_row _ _ 1 _ _ _ RC6.out
        go_wp2_with fail
        refine HC.out.mono ?_
        rintro e w7 ⟨rfl, hBn⟩
        have RC7 := Lib.hid ((hBn.block w.heap.size hwl6).trans RC6.out)
        have YB7 := Lib.hid (YB6.out.trans (hBn.mono YB6.out.size))
        have hwl7 : w.heap.size < w7.heap.size := Nat.lt_of_lt_of_le hwl6 hBn.size
        have LA7 := Lib.hid (LA6.out.next hBn (Nat.le_refl _))
        clear LA6
        clear k60 k61 RC6 YB6 hwl6 hBn HC
        go_wp2
        go_roundw
        case rel => exact ⟨k, n + 1, rfl, by go_num, ⟨by omega, by omega⟩, HK3.out, LA7.out, YB7.out, RC7.out⟩
        case measure => first | (simp [intOf]; done) | (simp [intOf]; omega)
    · have e : n = t0 + 1 := by omega
      subst e
      have e := HPS.out.over HHI.out
      rw [HL.out] at e
      subst e
      have qk : ((k : Int) == k) = true := by simp
      clear HPS LA6 hn0 hn1
      by_cases hx : 0 ≤ x ∧ x ≤ 2932896
      · obtain ⟨hx0, hx1⟩ := hx
        have HC := Lib.hid (next_d ha hl hc sa sl sc H S x kd HCAL.out hx0 hx1 w6 ((HH.out.next YB6.out (Nat.le_refl _) (Nat.le_refl _)).mono YB6.out.size) ((HS.out.next YB6.out (Nat.le_refl _) (Nat.le_refl _)).mono YB6.out.size) (HT.out.next YB6.out) hlm slm)
        have k60 : w6.cell? ⟨w.heap.size, 0, none⟩ = some (.slice ha hl hc) := cell_of_row _ _ 0 _ _ _ RC6.out
        have k61 : w6.cell? ⟨w.heap.size, 1, none⟩ = some (.slice sa sl sc) := cell_of_row _ _ 1 _ _ _ RC6.out
        go_wp2_with fail
        refine HC.out.mono ?_
        rintro e w7 ⟨⟨n, is, hni, rfl⟩, hBn⟩
        have RC7 := Lib.hid ((hBn.block w.heap.size hwl6).trans RC6.out)
        have YB7 := Lib.hid (YB6.out.trans (hBn.mono YB6.out.size))
        have hwl7 : w.heap.size < w7.heap.size := Nat.lt_of_lt_of_le hwl6 hBn.size
        clear k60 k61 RC6 YB6 hwl6 hBn HC
        have HNI := Lib.hid hni
        clear hni
        have HC := Lib.hid (rDay_any x w7)
        rw [decide_eq_true (⟨hx0, hx1⟩ : 0 ≤ x ∧ x ≤ 2932896)] at HC
        go_wp2_with fail
        refine HC.out.mono ?_
        rintro e w' ⟨rfl, rfl⟩
        clear HC
        go_wp2_with fail
        obtain ⟨wo, rfl⟩ : ∃ wo : World, wo = w7 := ⟨_, rfl⟩
        go_loopw [24] (fun i wr => ∃ j : Int, i = .int .i64 j ∧ (x ≤ j ∧ j ≤ x + 40 ∧ j ≤ 2932897) ∧ (∀ q, x ≤ q → q < j → kindD H hl q ≠ kd) ∧ Below w.heap.size w wr ∧ wr.heap[w.heap.size]? = some (.cells #[.slice ha hl hc, .slice sa sl sc] 25)) (fun i _ => (x + 40 - intOf i).toNat)
        case atStart => exact ⟨x, rfl, ⟨Int.le_refl _, by omega, by omega⟩, fun q a b => by omega, YB7.out, RC7.out⟩
        case round =>
          clear RC7 YB7 hwl7
          obtain ⟨j, rfl, ⟨hj0, hj1, hj2⟩, hno, hb, hr⟩ := hrel
          obtain ⟨w8, rfl⟩ : ∃ w8 : World, w8 = wr := ⟨_, rfl⟩
          have hwl8 : w.heap.size < w8.heap.size := (Array.getElem?_eq_some_iff.1 hr).1
          have YB8 := Lib.hid hb
          have RC8 := Lib.hid hr
          have HNO := Lib.hid hno
          clear hb hr hno
          by_cases h2 : j < x + 40
          · by_cases h3 : j ≤ 2932896
            · obtain ⟨kj, hkj⟩ : ∃ k, kindD H hl j = k := ⟨_, rfl⟩
              have HKJ := Lib.hid hkj
              clear hkj
              by_cases he : kj = kd
              · obtain ⟨e1, e2⟩ := HNI.out.near hj0 h2 h3 (HKJ.out.trans he) HNO.out
                subst e1 e2 he
                have qj : (kj == kj) = true := by simp
                have qn : (n == n) = true := by simp
                have HC := Lib.hid (rKind_d ha hl hc sa sl sc H n (by omega) h3 HCAL.out.2.2.1 w8 ((HH.out.next YB8.out (Nat.le_refl _) (Nat.le_refl _)).mono YB8.out.size) HCAL.out.1)
                rw [HKJ.out] at HC
                have k80 : w8.cell? ⟨w.heap.size, 0, none⟩ = some (.slice ha hl hc) := cell_of_row _ _ 0 _ _ _ RC8.out
                have k81 : w8.cell? ⟨w.heap.size, 1, none⟩ = some (.slice sa sl sc) := cell_of_row _ _ 1 _ _ _ RC8.out
                go_wp2_with fail
                refine HC.out.mono ?_
                rintro e w9 ⟨rfl, hBn⟩
                have RC9 := Lib.hid ((hBn.block w.heap.size hwl8).trans RC8.out)
                have YB9 := Lib.hid (YB8.out.trans (hBn.mono YB8.out.size))
                have hwl9 : w.heap.size < w9.heap.size := Nat.lt_of_lt_of_le hwl8 hBn.size
                clear k80 k81 RC8 YB8 hwl8 hBn HC
                go_wp2
                go_ret
                exact ⟨rfl, YB9.out⟩
              · have qj : (kj == kd) = false := by simp [he]
                have HN2 := Lib.hid (show ∀ q, x ≤ q → q < j + 1 → kindD H hl q ≠ kd from fun q a b => by
                  by_cases c : q < j
                  · exact HNO.out q a c
                  · have : q = j := by omega
                    rw [this, HKJ.out]; exact he)
                clear he
                have HC := Lib.hid (rKind_d ha hl hc sa sl sc H j (by omega) h3 HCAL.out.2.2.1 w8 ((HH.out.next YB8.out (Nat.le_refl _) (Nat.le_refl _)).mono YB8.out.size) HCAL.out.1)
                rw [HKJ.out] at HC
                have k80 : w8.cell? ⟨w.heap.size, 0, none⟩ = some (.slice ha hl hc) := cell_of_row _ _ 0 _ _ _ RC8.out
                have k81 : w8.cell? ⟨w.heap.size, 1, none⟩ = some (.slice sa sl sc) := cell_of_row _ _ 1 _ _ _ RC8.out
                go_wp2_with fail
                refine HC.out.mono ?_
                rintro e w9 ⟨rfl, hBn⟩
                have RC9 := Lib.hid ((hBn.block w.heap.size hwl8).trans RC8.out)
                have YB9 := Lib.hid (YB8.out.trans (hBn.mono YB8.out.size))
                have hwl9 : w.heap.size < w9.heap.size := Nat.lt_of_lt_of_le hwl8 hBn.size
                clear k80 k81 RC8 YB8 hwl8 hBn HC
                go_wp2
                go_roundw
                case rel => exact ⟨j + 1, by go_num, ⟨by omega, by omega, by omega⟩, HN2.out, YB9.out, RC9.out⟩
                case measure => first | (simp [intOf]; done) | (simp [intOf]; omega)
            · cases is
              · obtain rfl := HNI.out.none_it
                go_wp2
                go_ret
                exact ⟨rfl, YB8.out⟩
              · obtain ⟨p1, p2, p3, p4⟩ := HNI.out.far HNO.out (by omega)
                have HP4 := Lib.hid p4
                have qk2 : (kd == kd) = true := by simp
                clear p4
                have HC := Lib.hid (rKind_d ha hl hc sa sl sc H n (by omega) p3 HCAL.out.2.2.1 w8 ((HH.out.next YB8.out (Nat.le_refl _) (Nat.le_refl _)).mono YB8.out.size) HCAL.out.1)
                rw [HP4.out] at HC
                have k80 : w8.cell? ⟨w.heap.size, 0, none⟩ = some (.slice ha hl hc) := cell_of_row _ _ 0 _ _ _ RC8.out
                have k81 : w8.cell? ⟨w.heap.size, 1, none⟩ = some (.slice sa sl sc) := cell_of_row _ _ 1 _ _ _ RC8.out
                go_wp2_with fail
                refine HC.out.mono ?_
                rintro e w9 ⟨rfl, hBn⟩
                have RC9 := Lib.hid ((hBn.block w.heap.size hwl8).trans RC8.out)
                have YB9 := Lib.hid (YB8.out.trans (hBn.mono YB8.out.size))
                have hwl9 : w.heap.size < w9.heap.size := Nat.lt_of_lt_of_le hwl8 hBn.size
                clear k80 k81 RC8 YB8 hwl8 hBn HC
                go_wp2
                go_ret
                exact ⟨rfl, YB9.out⟩
          · cases is
            · obtain rfl := HNI.out.none_it
              go_wp2
              go_ret
              exact ⟨rfl, YB8.out⟩
            · obtain ⟨p1, p2, p3, p4⟩ := HNI.out.far HNO.out (by omega)
              have HP4 := Lib.hid p4
              have qk2 : (kd == kd) = true := by simp
              clear p4
              have HC := Lib.hid (rKind_d ha hl hc sa sl sc H n (by omega) p3 HCAL.out.2.2.1 w8 ((HH.out.next YB8.out (Nat.le_refl _) (Nat.le_refl _)).mono YB8.out.size) HCAL.out.1)
              rw [HP4.out] at HC
              have k80 : w8.cell? ⟨w.heap.size, 0, none⟩ = some (.slice ha hl hc) := cell_of_row _ _ 0 _ _ _ RC8.out
              have k81 : w8.cell? ⟨w.heap.size, 1, none⟩ = some (.slice sa sl sc) := cell_of_row _ _ 1 _ _ _ RC8.out
              go_wp2_with fail
              refine HC.out.mono ?_
              rintro e w9 ⟨rfl, hBn⟩
              have RC9 := Lib.hid ((hBn.block w.heap.size hwl8).trans RC8.out)
              have YB9 := Lib.hid (YB8.out.trans (hBn.mono YB8.out.size))
              have hwl9 : w.heap.size < w9.heap.size := Nat.lt_of_lt_of_le hwl8 hBn.size
              clear k80 k81 RC8 YB8 hwl8 hBn HC
              go_wp2
              go_ret
              exact ⟨rfl, YB9.out⟩
      · have HC := Lib.hid (next_no ha hl hc sa sl sc H S x kd HCAL.out hx w6 ((HH.out.next YB6.out (Nat.le_refl _) (Nat.le_refl _)).mono YB6.out.size) ((HS.out.next YB6.out (Nat.le_refl _) (Nat.le_refl _)).mono YB6.out.size) (HT.out.next YB6.out) hlm slm)
        have k60 : w6.cell? ⟨w.heap.size, 0, none⟩ = some (.slice ha hl hc) := cell_of_row _ _ 0 _ _ _ RC6.out
        have k61 : w6.cell? ⟨w.heap.size, 1, none⟩ = some (.slice sa sl sc) := cell_of_row _ _ 1 _ _ _ RC6.out
        go_wp2_with fail
        refine HC.out.mono ?_
        rintro e w7 ⟨rfl, hBn⟩
        have RC7 := Lib.hid ((hBn.block w.heap.size hwl6).trans RC6.out)
        have YB7 := Lib.hid (YB6.out.trans (hBn.mono YB6.out.size))
        have hwl7 : w.heap.size < w7.heap.size := Nat.lt_of_lt_of_le hwl6 hBn.size
        clear k60 k61 RC6 YB6 hwl6 hBn HC
        have HC := Lib.hid (rDay_any x w7)
        rw [decide_eq_false hx] at HC
        go_wp2_with fail
        refine HC.out.mono ?_
        rintro e w' ⟨rfl, rfl⟩
        clear HC
        go_wp2
        go_ret
        exact ⟨rfl, YB7.out⟩
theorem walk_lists (ha : Option Addr) (hl hc : Nat) (sa : Option Addr) (sl sc : Nat) (H : Nat → Ho) (S : Nat → Se) (y x kd : Int) (w : World) (hT : Tabs w)
    (h0 : (hl ≤ hc ∧ hc ≤ maxLen) ∧ (sl ≤ sc ∧ sc ≤ maxLen) ∧ HosAt w.heap.size w ha hl H ∧ SeasAt w.heap.size w sa sl S) (_h1 : (Lit.int .i64 y).wf = true) (_h2 : (Lit.int .i64 x).wf = true) (_h3 : (Lit.int .i64 kd).wf = true) :
    Calls Tryd.prog 4 #[calV ha hl hc sa sl sc, .int .i64 y, .int .i64 x, .int .i64 kd] w fun e w' => e = .returned (.bool true) ∧ Below w.heap.size w w' := by
  obtain ⟨⟨a1, a2⟩, ⟨a3, a4⟩, hH, hS⟩ := h0
  have hlm := Nat.le_trans a1 a2
  have slm := Nat.le_trans a3 a4
  by_cases hb : 20 < hl
  · exact listsW_big ha hl hc sa sl sc H S y x kd hb w hH hS hT hlm slm
  · by_cases hg : 30 < sl
    · exact listsW_great ha hl hc sa sl sc H S y x kd hb hg w hH hS hT hlm slm
    · by_cases hcal : CalIs H hl S sl
      · by_cases h0 : y < 1970
        · exact listsW_out_no_lo ha hl hc sa sl sc H S y x kd hb hg hcal h0 w hH hS hT hlm slm
        · by_cases h1 : 9999 < y
          · exact listsW_out_no_hi ha hl hc sa sl sc H S y x kd hb hg hcal h1 w hH hS hT hlm slm
          · exact listsW_yes ha hl hc sa sl sc H S y x kd hb hg hcal (by omega) (by omega) w hH hS hT hlm slm
      · by_cases h0 : y < 1970
        · exact listsW_out_bad_lo ha hl hc sa sl sc H S y x kd hb hg hcal h0 w hH hS hT hlm slm
        · by_cases h1 : 9999 < y
          · exact listsW_out_bad_hi ha hl hc sa sl sc H S y x kd hb hg hcal h1 w hH hS hT hlm slm
          · exact listsW_bad ha hl hc sa sl sc H S y x kd hb hg hcal (by omega) (by omega) w hH hS hT hlm slm
end Go.Proofs.YtgedcfgmfhlkdaaDoor
