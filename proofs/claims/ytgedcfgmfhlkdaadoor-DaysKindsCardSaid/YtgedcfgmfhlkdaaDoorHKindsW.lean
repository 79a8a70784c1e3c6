/- The statement DaysKinds, walked. -/
import Derived.Test.YtgedcfgmfhlkdaaDoorHRef4
import Derived.Test.YtgedcfgmfhlkdaaDoorHOneW
set_option linter.unusedVariables false
set_option linter.unusedSimpArgs false
namespace Go.Proofs.YtgedcfgmfhlkdaaDoor
open Go.RowKit Go.Shelf
set_option maxRecDepth 100000 in
set_option maxHeartbeats 4000000 in
theorem kindsW_great (ha : Option Addr) (hl hc : Nat) (sa : Option Addr) (sl sc : Nat) (H : Nat → Ho) (S : Nat → Se) (x : Int) (hg : 120 < hl ∨ 30 < sl) (w : World) (hH : HosAt w.heap.size w ha hl H) (hS : SeasAt w.heap.size w sa sl S) (hT : Tabs w) (hlm : hl ≤ maxLen) (slm : sl ≤ maxLen) :
    Calls Tryd.prog 3 #[calV ha hl hc sa sl sc, .int .i64 x] w fun e w' => e = .returned (.bool true) ∧ Below w.heap.size w w' := by
  have HG := Lib.hid (greatB_yes hg)
  clear hg
  have hb0 := (Below.refl _ w).alloc (Nat.le_refl _) (.cells #[.slice ha hl hc, .slice sa sl sc] 25)
  have hzc := heap_alloc_new w (.cells #[.slice ha hl hc, .slice sa sl sc] 25)
  have hsz : (w.alloc (.cells #[.slice ha hl hc, .slice sa sl sc] 25)).heap.size = w.heap.size + 1 := World.size_alloc _ _
  obtain ⟨X, hX⟩ : ∃ X, X = w.alloc (.cells #[.slice ha hl hc, .slice sa sl sc] 25) := ⟨_, rfl⟩
  rw [← hX] at hb0 hzc hsz
  have RC0 := Lib.hid hzc
  have YB0 := Lib.hid hb0
  have hwl0 : w.heap.size < X.heap.size := by omega
  have HH := Lib.hid hH
  have HS := Lib.hid hS
  have HT := Lib.hid hT
  have HX := Lib.hid hX
  clear hb0 hzc hsz hX hH hS hT
  go_enter Tryd.func3, Tryd.ntmps3
  go_wp2_with fail
  rw [← HX.out]
  clear HX
  have HC := Lib.hid (great_any ha hl hc sa sl sc hlm slm X)
  rw [HG.out] at HC
  have k00 : X.cell? ⟨w.heap.size, 0, none⟩ = some (.slice ha hl hc) := cell_of_row _ _ 0 _ _ _ RC0.out
  have k01 : X.cell? ⟨w.heap.size, 1, none⟩ = some (.slice sa sl sc) := cell_of_row _ _ 1 _ _ _ RC0.out
  refine HC.out.mono ?_
  rintro e w1 ⟨rfl, hBn⟩
  have RC1 := Lib.hid ((hBn.block w.heap.size hwl0).trans RC0.out)
  have YB1 := Lib.hid (YB0.out.trans (hBn.mono YB0.out.size))
  have hwl1 : w.heap.size < w1.heap.size := Nat.lt_of_lt_of_le hwl0 hBn.size
  clear k00 k01 RC0 YB0 hwl0 hBn HC
  go_wp2
  go_ret
  exact ⟨rfl, YB1.out⟩
set_option maxRecDepth 100000 in
set_option maxHeartbeats 4000000 in
theorem kindsW_bad (ha : Option Addr) (hl hc : Nat) (sa : Option Addr) (sl sc : Nat) (H : Nat → Ho) (S : Nat → Se) (x : Int) (hg : ¬ (120 < hl ∨ 30 < sl)) (hcal : ¬ CalIs H hl S sl) (w : World) (hH : HosAt w.heap.size w ha hl H) (hS : SeasAt w.heap.size w sa sl S) (hT : Tabs w) (hlm : hl ≤ maxLen) (slm : sl ≤ maxLen) :
    Calls Tryd.prog 3 #[calV ha hl hc sa sl sc, .int .i64 x] w fun e w' => e = .returned (.bool true) ∧ Below w.heap.size w w' := by
  have HG := Lib.hid (greatB_no hg)
  have HDC := Lib.hid (decide_eq_false hcal)
  have HCE := Lib.hid (calE_no hcal)
  have HER := Lib.hid (show errC H hl S sl x = 80 by unfold errC; rw [if_neg hcal])
  have HCAL := Lib.hid hcal
  clear hg hcal
  have hb0 := (Below.refl _ w).alloc (Nat.le_refl _) (.cells #[.slice ha hl hc, .slice sa sl sc] 25)
  have hzc := heap_alloc_new w (.cells #[.slice ha hl hc, .slice sa sl sc] 25)
  have hsz : (w.alloc (.cells #[.slice ha hl hc, .slice sa sl sc] 25)).heap.size = w.heap.size + 1 := World.size_alloc _ _
  obtain ⟨X, hX⟩ : ∃ X, X = w.alloc (.cells #[.slice ha hl hc, .slice sa sl sc] 25) := ⟨_, rfl⟩
  rw [← hX] at hb0 hzc hsz
  have RC0 := Lib.hid hzc
  have YB0 := Lib.hid hb0
  have hwl0 : w.heap.size < X.heap.size := by omega
  have HH := Lib.hid hH
  have HS := Lib.hid hS
  have HT := Lib.hid hT
  have HX := Lib.hid hX
  clear hb0 hzc hsz hX hH hS hT
  go_enter Tryd.func3, Tryd.ntmps3
  go_wp2_with fail
  rw [← HX.out]
  clear HX
  have HC := Lib.hid (great_any ha hl hc sa sl sc hlm slm X)
  rw [HG.out] at HC
  have k00 : X.cell? ⟨w.heap.size, 0, none⟩ = some (.slice ha hl hc) := cell_of_row _ _ 0 _ _ _ RC0.out
  have k01 : X.cell? ⟨w.heap.size, 1, none⟩ = some (.slice sa sl sc) := cell_of_row _ _ 1 _ _ _ RC0.out
  refine HC.out.mono ?_
  rintro e w1 ⟨rfl, hBn⟩
  have RC1 := Lib.hid ((hBn.block w.heap.size hwl0).trans RC0.out)
  have YB1 := Lib.hid (YB0.out.trans (hBn.mono YB0.out.size))
  have hwl1 : w.heap.size < w1.heap.size := Nat.lt_of_lt_of_le hwl0 hBn.size
  clear k00 k01 RC0 YB0 hwl0 hBn HC
  have HC := Lib.hid (rMay_any ha hl hc sa sl sc H S w1 ((HH.out.next YB1.out (Nat.le_refl _) (Nat.le_refl _)).mono YB1.out.size) ((HS.out.next YB1.out (Nat.le_refl _) (Nat.le_refl _)).mono YB1.out.size) hlm slm)
  rw [HDC.out] at HC
  have k10 : w1.cell? ⟨w.heap.size, 0, none⟩ = some (.slice ha hl hc) := cell_of_row _ _ 0 _ _ _ RC1.out
  have k11 : w1.cell? ⟨w.heap.size, 1, none⟩ = some (.slice sa sl sc) := cell_of_row _ _ 1 _ _ _ RC1.out
  go_wp2_with fail
  refine HC.out.mono ?_
  rintro e w2 ⟨rfl, hBn⟩
  have RC2 := Lib.hid ((hBn.block w.heap.size hwl1).trans RC1.out)
  have YB2 := Lib.hid (YB1.out.trans (hBn.mono YB1.out.size))
  have hwl2 : w.heap.size < w2.heap.size := Nat.lt_of_lt_of_le hwl1 hBn.size
  clear k10 k11 RC1 YB1 hwl1 hBn HC
  have HC := Lib.hid (checkD_any ha hl hc sa sl sc H S w2 ((HH.out.next YB2.out (Nat.le_refl _) (Nat.le_refl _)).mono YB2.out.size) ((HS.out.next YB2.out (Nat.le_refl _) (Nat.le_refl _)).mono YB2.out.size) (HT.out.next YB2.out) hlm slm)
  rw [HCE.out] at HC
  have k20 : w2.cell? ⟨w.heap.size, 0, none⟩ = some (.slice ha hl hc) := cell_of_row _ _ 0 _ _ _ RC2.out
  have k21 : w2.cell? ⟨w.heap.size, 1, none⟩ = some (.slice sa sl sc) := cell_of_row _ _ 1 _ _ _ RC2.out
  go_wp2_with fail
  refine HC.out.mono ?_
  rintro e w3 ⟨rfl, hBn⟩
  have RC3 := Lib.hid ((hBn.block w.heap.size hwl2).trans RC2.out)
  have YB3 := Lib.hid (YB2.out.trans (hBn.mono YB2.out.size))
  have hwl3 : w.heap.size < w3.heap.size := Nat.lt_of_lt_of_le hwl2 hBn.size
  clear k20 k21 RC2 YB2 hwl2 hBn HC
  have HC := Lib.hid (rError_any ha hl hc sa sl sc H S x w3 ((HH.out.next YB3.out (Nat.le_refl _) (Nat.le_refl _)).mono YB3.out.size) ((HS.out.next YB3.out (Nat.le_refl _) (Nat.le_refl _)).mono YB3.out.size) hlm slm)
  rw [HER.out] at HC
  have k30 : w3.cell? ⟨w.heap.size, 0, none⟩ = some (.slice ha hl hc) := cell_of_row _ _ 0 _ _ _ RC3.out
  have k31 : w3.cell? ⟨w.heap.size, 1, none⟩ = some (.slice sa sl sc) := cell_of_row _ _ 1 _ _ _ RC3.out
  go_wp2_with fail
  refine HC.out.mono ?_
  rintro e w4 ⟨rfl, hBn⟩
  have RC4 := Lib.hid ((hBn.block w.heap.size hwl3).trans RC3.out)
  have YB4 := Lib.hid (YB3.out.trans (hBn.mono YB3.out.size))
  have hwl4 : w.heap.size < w4.heap.size := Nat.lt_of_lt_of_le hwl3 hBn.size
  clear k30 k31 RC3 YB3 hwl3 hBn HC
  have HC := Lib.hid (is_bad ha hl hc sa sl sc H S x HCAL.out w4 ((HH.out.next YB4.out (Nat.le_refl _) (Nat.le_refl _)).mono YB4.out.size) ((HS.out.next YB4.out (Nat.le_refl _) (Nat.le_refl _)).mono YB4.out.size) (HT.out.next YB4.out) hlm slm)
  have k40 : w4.cell? ⟨w.heap.size, 0, none⟩ = some (.slice ha hl hc) := cell_of_row _ _ 0 _ _ _ RC4.out
  have k41 : w4.cell? ⟨w.heap.size, 1, none⟩ = some (.slice sa sl sc) := cell_of_row _ _ 1 _ _ _ RC4.out
  go_wp2_with fail
  refine HC.out.mono ?_
  rintro e w5 ⟨rfl, hBn⟩
  have RC5 := Lib.hid ((hBn.block w.heap.size hwl4).trans RC4.out)
  have YB5 := Lib.hid (YB4.out.trans (hBn.mono YB4.out.size))
  have hwl5 : w.heap.size < w5.heap.size := Nat.lt_of_lt_of_le hwl4 hBn.size
  clear k40 k41 RC4 YB4 hwl4 hBn HC
  have HC := Lib.hid (kind_bad ha hl hc sa sl sc H S x HCAL.out w5 ((HH.out.next YB5.out (Nat.le_refl _) (Nat.le_refl _)).mono YB5.out.size) ((HS.out.next YB5.out (Nat.le_refl _) (Nat.le_refl _)).mono YB5.out.size) (HT.out.next YB5.out) hlm slm)
  have k50 : w5.cell? ⟨w.heap.size, 0, none⟩ = some (.slice ha hl hc) := cell_of_row _ _ 0 _ _ _ RC5.out
  have k51 : w5.cell? ⟨w.heap.size, 1, none⟩ = some (.slice sa sl sc) := cell_of_row _ _ 1 _ _ _ RC5.out
  go_wp2_with fail
  refine HC.out.mono ?_
  rintro e w6 ⟨rfl, hBn⟩
  have RC6 := Lib.hid ((hBn.block w.heap.size hwl5).trans RC5.out)
  have YB6 := Lib.hid (YB5.out.trans (hBn.mono YB5.out.size))
  have hwl6 : w.heap.size < w6.heap.size := Nat.lt_of_lt_of_le hwl5 hBn.size
  clear k50 k51 RC5 YB5 hwl5 hBn HC
  have HC := Lib.hid (season_bad ha hl hc sa sl sc H S x HCAL.out w6 ((HH.out.next YB6.out (Nat.le_refl _) (Nat.le_refl _)).mono YB6.out.size) ((HS.out.next YB6.out (Nat.le_refl _) (Nat.le_refl _)).mono YB6.out.size) (HT.out.next YB6.out) hlm slm)
  have k60 : w6.cell? ⟨w.heap.size, 0, none⟩ = some (.slice ha hl hc) := cell_of_row _ _ 0 _ _ _ RC6.out
  have k61 : w6.cell? ⟨w.heap.size, 1, none⟩ = some (.slice sa sl sc) := cell_of_row _ _ 1 _ _ _ RC6.out
  go_wp2_with fail
  refine HC.out.mono ?_
  rintro e w7 ⟨rfl, hBn⟩
  have RC7 := Lib.hid ((hBn.block w.heap.size hwl6).trans RC6.out)
  have YB7 := Lib.hid (YB6.out.trans (hBn.mono YB6.out.size))
  have hwl7 : w.heap.size < w7.heap.size := Nat.lt_of_lt_of_le hwl6 hBn.size
  clear k60 k61 RC6 YB6 hwl6 hBn HC
  go_wp2
  go_ret
  exact ⟨rfl, YB7.out⟩
set_option maxRecDepth 100000 in
set_option maxHeartbeats 4000000 in
theorem kindsW_no (ha : Option Addr) (hl hc : Nat) (sa : Option Addr) (sl sc : Nat) (H : Nat → Ho) (S : Nat → Se) (x : Int) (hg : ¬ (120 < hl ∨ 30 < sl)) (hcal : CalIs H hl S sl) (hd : ¬ (0 ≤ x ∧ x ≤ 2932896)) (w : World) (hH : HosAt w.heap.size w ha hl H) (hS : SeasAt w.heap.size w sa sl S) (hT : Tabs w) (hlm : hl ≤ maxLen) (slm : sl ≤ maxLen) :
    Calls Tryd.prog 3 #[calV ha hl hc sa sl sc, .int .i64 x] w fun e w' => e = .returned (.bool true) ∧ Below w.heap.size w w' := by
  have HG := Lib.hid (greatB_no hg)
  have HDC := Lib.hid (decide_eq_true hcal)
  have HCE := Lib.hid (calE_yes hcal)
  have HER := Lib.hid (show errC H hl S sl x = 60 by unfold errC; rw [if_pos hcal, if_neg hd])
  have HCAL := Lib.hid hcal
  have HD := Lib.hid hd
  clear hg hcal hd
  have hb0 := (Below.refl _ w).alloc (Nat.le_refl _) (.cells #[.slice ha hl hc, .slice sa sl sc] 25)
  have hzc := heap_alloc_new w (.cells #[.slice ha hl hc, .slice sa sl sc] 25)
  have hsz : (w.alloc (.cells #[.slice ha hl hc, .slice sa sl sc] 25)).heap.size = w.heap.size + 1 := World.size_alloc _ _
  obtain ⟨X, hX⟩ : ∃ X, X = w.alloc (.cells #[.slice ha hl hc, .slice sa sl sc] 25) := ⟨_, rfl⟩
  rw [← hX] at hb0 hzc hsz
  have RC0 := Lib.hid hzc
  have YB0 := Lib.hid hb0
  have hwl0 : w.heap.size < X.heap.size := by omega
  have HH := Lib.hid hH
  have HS := Lib.hid hS
  have HT := Lib.hid hT
  have HX := Lib.hid hX
  clear hb0 hzc hsz hX hH hS hT
  go_enter Tryd.func3, Tryd.ntmps3
  go_wp2_with fail
  rw [← HX.out]
  clear HX
  have HC := Lib.hid (great_any ha hl hc sa sl sc hlm slm X)
  rw [HG.out] at HC
  have k00 : X.cell? ⟨w.heap.size, 0, none⟩ = some (.slice ha hl hc) := cell_of_row _ _ 0 _ _ _ RC0.out
  have k01 : X.cell? ⟨w.heap.size, 1, none⟩ = some (.slice sa sl sc) := cell_of_row _ _ 1 _ _ _ RC0.out
  refine HC.out.mono ?_
  rintro e w1 ⟨rfl, hBn⟩
  have RC1 := Lib.hid ((hBn.block w.heap.size hwl0).trans RC0.out)
  have YB1 := Lib.hid (YB0.out.trans (hBn.mono YB0.out.size))
  have hwl1 : w.heap.size < w1.heap.size := Nat.lt_of_lt_of_le hwl0 hBn.size
  clear k00 k01 RC0 YB0 hwl0 hBn HC
  have HC := Lib.hid (rMay_any ha hl hc sa sl sc H S w1 ((HH.out.next YB1.out (Nat.le_refl _) (Nat.le_refl _)).mono YB1.out.size) ((HS.out.next YB1.out (Nat.le_refl _) (Nat.le_refl _)).mono YB1.out.size) hlm slm)
  rw [HDC.out] at HC
  have k10 : w1.cell? ⟨w.heap.size, 0, none⟩ = some (.slice ha hl hc) := cell_of_row _ _ 0 _ _ _ RC1.out
  have k11 : w1.cell? ⟨w.heap.size, 1, none⟩ = some (.slice sa sl sc) := cell_of_row _ _ 1 _ _ _ RC1.out
  go_wp2_with fail
  refine HC.out.mono ?_
  rintro e w2 ⟨rfl, hBn⟩
  have RC2 := Lib.hid ((hBn.block w.heap.size hwl1).trans RC1.out)
  have YB2 := Lib.hid (YB1.out.trans (hBn.mono YB1.out.size))
  have hwl2 : w.heap.size < w2.heap.size := Nat.lt_of_lt_of_le hwl1 hBn.size
  clear k10 k11 RC1 YB1 hwl1 hBn HC
  have HC := Lib.hid (checkD_any ha hl hc sa sl sc H S w2 ((HH.out.next YB2.out (Nat.le_refl _) (Nat.le_refl _)).mono YB2.out.size) ((HS.out.next YB2.out (Nat.le_refl _) (Nat.le_refl _)).mono YB2.out.size) (HT.out.next YB2.out) hlm slm)
  rw [HCE.out] at HC
  have k20 : w2.cell? ⟨w.heap.size, 0, none⟩ = some (.slice ha hl hc) := cell_of_row _ _ 0 _ _ _ RC2.out
  have k21 : w2.cell? ⟨w.heap.size, 1, none⟩ = some (.slice sa sl sc) := cell_of_row _ _ 1 _ _ _ RC2.out
  go_wp2_with fail
  refine HC.out.mono ?_
  rintro e w3 ⟨rfl, hBn⟩
  have RC3 := Lib.hid ((hBn.block w.heap.size hwl2).trans RC2.out)
  have YB3 := Lib.hid (YB2.out.trans (hBn.mono YB2.out.size))
  have hwl3 : w.heap.size < w3.heap.size := Nat.lt_of_lt_of_le hwl2 hBn.size
  clear k20 k21 RC2 YB2 hwl2 hBn HC
  have HC := Lib.hid (rError_any ha hl hc sa sl sc H S x w3 ((HH.out.next YB3.out (Nat.le_refl _) (Nat.le_refl _)).mono YB3.out.size) ((HS.out.next YB3.out (Nat.le_refl _) (Nat.le_refl _)).mono YB3.out.size) hlm slm)
  rw [HER.out] at HC
  have k30 : w3.cell? ⟨w.heap.size, 0, none⟩ = some (.slice ha hl hc) := cell_of_row _ _ 0 _ _ _ RC3.out
  have k31 : w3.cell? ⟨w.heap.size, 1, none⟩ = some (.slice sa sl sc) := cell_of_row _ _ 1 _ _ _ RC3.out
  go_wp2_with fail
  refine HC.out.mono ?_
  rintro e w4 ⟨rfl, hBn⟩
  have RC4 := Lib.hid ((hBn.block w.heap.size hwl3).trans RC3.out)
  have YB4 := Lib.hid (YB3.out.trans (hBn.mono YB3.out.size))
  have hwl4 : w.heap.size < w4.heap.size := Nat.lt_of_lt_of_le hwl3 hBn.size
  clear k30 k31 RC3 YB3 hwl3 hBn HC
  have HC := Lib.hid (is_no ha hl hc sa sl sc H S x HCAL.out HD.out w4 ((HH.out.next YB4.out (Nat.le_refl _) (Nat.le_refl _)).mono YB4.out.size) ((HS.out.next YB4.out (Nat.le_refl _) (Nat.le_refl _)).mono YB4.out.size) (HT.out.next YB4.out) hlm slm)
  have k40 : w4.cell? ⟨w.heap.size, 0, none⟩ = some (.slice ha hl hc) := cell_of_row _ _ 0 _ _ _ RC4.out
  have k41 : w4.cell? ⟨w.heap.size, 1, none⟩ = some (.slice sa sl sc) := cell_of_row _ _ 1 _ _ _ RC4.out
  go_wp2_with fail
  refine HC.out.mono ?_
  rintro e w5 ⟨rfl, hBn⟩
  have RC5 := Lib.hid ((hBn.block w.heap.size hwl4).trans RC4.out)
  have YB5 := Lib.hid (YB4.out.trans (hBn.mono YB4.out.size))
  have hwl5 : w.heap.size < w5.heap.size := Nat.lt_of_lt_of_le hwl4 hBn.size
  clear k40 k41 RC4 YB4 hwl4 hBn HC
  have HC := Lib.hid (kind_no ha hl hc sa sl sc H S x HCAL.out HD.out w5 ((HH.out.next YB5.out (Nat.le_refl _) (Nat.le_refl _)).mono YB5.out.size) ((HS.out.next YB5.out (Nat.le_refl _) (Nat.le_refl _)).mono YB5.out.size) (HT.out.next YB5.out) hlm slm)
  have k50 : w5.cell? ⟨w.heap.size, 0, none⟩ = some (.slice ha hl hc) := cell_of_row _ _ 0 _ _ _ RC5.out
  have k51 : w5.cell? ⟨w.heap.size, 1, none⟩ = some (.slice sa sl sc) := cell_of_row _ _ 1 _ _ _ RC5.out
  go_wp2_with fail
  refine HC.out.mono ?_
  rintro e w6 ⟨rfl, hBn⟩
  have RC6 := Lib.hid ((hBn.block w.heap.size hwl5).trans RC5.out)
  have YB6 := Lib.hid (YB5.out.trans (hBn.mono YB5.out.size))
  have hwl6 : w.heap.size < w6.heap.size := Nat.lt_of_lt_of_le hwl5 hBn.size
  clear k50 k51 RC5 YB5 hwl5 hBn HC
  have HC := Lib.hid (season_no ha hl hc sa sl sc H S x HCAL.out HD.out w6 ((HH.out.next YB6.out (Nat.le_refl _) (Nat.le_refl _)).mono YB6.out.size) ((HS.out.next YB6.out (Nat.le_refl _) (Nat.le_refl _)).mono YB6.out.size) (HT.out.next YB6.out) hlm slm)
  have k60 : w6.cell? ⟨w.heap.size, 0, none⟩ = some (.slice ha hl hc) := cell_of_row _ _ 0 _ _ _ RC6.out
  have k61 : w6.cell? ⟨w.heap.size, 1, none⟩ = some (.slice sa sl sc) := cell_of_row _ _ 1 _ _ _ RC6.out
  go_wp2_with fail
  refine HC.out.mono ?_
  rintro e w7 ⟨rfl, hBn⟩
  have RC7 := Lib.hid ((hBn.block w.heap.size hwl6).trans RC6.out)
  have YB7 := Lib.hid (YB6.out.trans (hBn.mono YB6.out.size))
  have hwl7 : w.heap.size < w7.heap.size := Nat.lt_of_lt_of_le hwl6 hBn.size
  clear k60 k61 RC6 YB6 hwl6 hBn HC
  go_wp2
  go_ret
  exact ⟨rfl, YB7.out⟩
set_option maxRecDepth 100000 in
set_option maxHeartbeats 4000000 in
theorem kindsW_yes (ha : Option Addr) (hl hc : Nat) (sa : Option Addr) (sl sc : Nat) (H : Nat → Ho) (S : Nat → Se) (x : Int) (hg : ¬ (120 < hl ∨ 30 < sl)) (hcal : CalIs H hl S sl) (y m d : Int) (hd : IsDate x y m d) (w : World) (hH : HosAt w.heap.size w ha hl H) (hS : SeasAt w.heap.size w sa sl S) (hT : Tabs w) (hlm : hl ≤ maxLen) (slm : sl ≤ maxLen) :
    Calls Tryd.prog 3 #[calV ha hl hc sa sl sc, .int .i64 x] w fun e w' => e = .returned (.bool true) ∧ Below w.heap.size w w' := by
  have HG := Lib.hid (greatB_no hg)
  have hxb := day_bounds hd.1
  rw [← hd.2] at hxb
  have HDC := Lib.hid (decide_eq_true hcal)
  have HCE := Lib.hid (calE_yes hcal)
  have HER := Lib.hid (show errC H hl S sl x = 0 by unfold errC; rw [if_pos hcal, if_pos hxb])
  have HCAL := Lib.hid hcal
  have HD := Lib.hid hd
  obtain ⟨f, hf⟩ : ∃ f, f = decide (x ∈ hds H y hl) := ⟨_, rfl⟩
  obtain ⟨ka, hka⟩ : ∃ k, k = kindB x f := ⟨_, rfl⟩
  have HF := Lib.hid (show decide (x ∈ hds H y hl) = f from hf.symm)
  have HKA := Lib.hid (show kindB x f = ka from hka.symm)
  clear hg hcal hd hf hka hxb
  have hb0 := (Below.refl _ w).alloc (Nat.le_refl _) (.cells #[.slice ha hl hc, .slice sa sl sc] 25)
  have hzc := heap_alloc_new w (.cells #[.slice ha hl hc, .slice sa sl sc] 25)
  have hsz : (w.alloc (.cells #[.slice ha hl hc, .slice sa sl sc] 25)).heap.size = w.heap.size + 1 := World.size_alloc _ _
  obtain ⟨X, hX⟩ : ∃ X, X = w.alloc (.cells #[.slice ha hl hc, .slice sa sl sc] 25) := ⟨_, rfl⟩
  rw [← hX] at hb0 hzc hsz
  have RC0 := Lib.hid hzc
  have YB0 := Lib.hid hb0
  have hwl0 : w.heap.size < X.heap.size := by omega
  have HH := Lib.hid hH
  have HS := Lib.hid hS
  have HT := Lib.hid hT
  have HX := Lib.hid hX
  clear hb0 hzc hsz hX hH hS hT
  go_enter Tryd.func3, Tryd.ntmps3
  go_wp2_with fail
  rw [← HX.out]
  clear HX
  have HC := Lib.hid (great_any ha hl hc sa sl sc hlm slm X)
  rw [HG.out] at HC
  have k00 : X.cell? ⟨w.heap.size, 0, none⟩ = some (.slice ha hl hc) := cell_of_row _ _ 0 _ _ _ RC0.out
  have k01 : X.cell? ⟨w.heap.size, 1, none⟩ = some (.slice sa sl sc) := cell_of_row _ _ 1 _ _ _ RC0.out
  refine HC.out.mono ?_
  rintro e w1 ⟨rfl, hBn⟩
  have RC1 := Lib.hid ((hBn.block w.heap.size hwl0).trans RC0.out)
  have YB1 := Lib.hid (YB0.out.trans (hBn.mono YB0.out.size))
  have hwl1 : w.heap.size < w1.heap.size := Nat.lt_of_lt_of_le hwl0 hBn.size
  clear k00 k01 RC0 YB0 hwl0 hBn HC
  have HC := Lib.hid (rMay_any ha hl hc sa sl sc H S w1 ((HH.out.next YB1.out (Nat.le_refl _) (Nat.le_refl _)).mono YB1.out.size) ((HS.out.next YB1.out (Nat.le_refl _) (Nat.le_refl _)).mono YB1.out.size) hlm slm)
  rw [HDC.out] at HC
  have k10 : w1.cell? ⟨w.heap.size, 0, none⟩ = some (.slice ha hl hc) := cell_of_row _ _ 0 _ _ _ RC1.out
  have k11 : w1.cell? ⟨w.heap.size, 1, none⟩ = some (.slice sa sl sc) := cell_of_row _ _ 1 _ _ _ RC1.out
  go_wp2_with fail
  refine HC.out.mono ?_
  rintro e w2 ⟨rfl, hBn⟩
  have RC2 := Lib.hid ((hBn.block w.heap.size hwl1).trans RC1.out)
  have YB2 := Lib.hid (YB1.out.trans (hBn.mono YB1.out.size))
  have hwl2 : w.heap.size < w2.heap.size := Nat.lt_of_lt_of_le hwl1 hBn.size
  clear k10 k11 RC1 YB1 hwl1 hBn HC
  have HC := Lib.hid (checkD_any ha hl hc sa sl sc H S w2 ((HH.out.next YB2.out (Nat.le_refl _) (Nat.le_refl _)).mono YB2.out.size) ((HS.out.next YB2.out (Nat.le_refl _) (Nat.le_refl _)).mono YB2.out.size) (HT.out.next YB2.out) hlm slm)
  rw [HCE.out] at HC
  have k20 : w2.cell? ⟨w.heap.size, 0, none⟩ = some (.slice ha hl hc) := cell_of_row _ _ 0 _ _ _ RC2.out
  have k21 : w2.cell? ⟨w.heap.size, 1, none⟩ = some (.slice sa sl sc) := cell_of_row _ _ 1 _ _ _ RC2.out
  go_wp2_with fail
  refine HC.out.mono ?_
  rintro e w3 ⟨rfl, hBn⟩
  have RC3 := Lib.hid ((hBn.block w.heap.size hwl2).trans RC2.out)
  have YB3 := Lib.hid (YB2.out.trans (hBn.mono YB2.out.size))
  have hwl3 : w.heap.size < w3.heap.size := Nat.lt_of_lt_of_le hwl2 hBn.size
  clear k20 k21 RC2 YB2 hwl2 hBn HC
  have HC := Lib.hid (rError_any ha hl hc sa sl sc H S x w3 ((HH.out.next YB3.out (Nat.le_refl _) (Nat.le_refl _)).mono YB3.out.size) ((HS.out.next YB3.out (Nat.le_refl _) (Nat.le_refl _)).mono YB3.out.size) hlm slm)
  rw [HER.out] at HC
  have k30 : w3.cell? ⟨w.heap.size, 0, none⟩ = some (.slice ha hl hc) := cell_of_row _ _ 0 _ _ _ RC3.out
  have k31 : w3.cell? ⟨w.heap.size, 1, none⟩ = some (.slice sa sl sc) := cell_of_row _ _ 1 _ _ _ RC3.out
  go_wp2_with fail
  refine HC.out.mono ?_
  rintro e w4 ⟨rfl, hBn⟩
  have RC4 := Lib.hid ((hBn.block w.heap.size hwl3).trans RC3.out)
  have YB4 := Lib.hid (YB3.out.trans (hBn.mono YB3.out.size))
  have hwl4 : w.heap.size < w4.heap.size := Nat.lt_of_lt_of_le hwl3 hBn.size
  clear k30 k31 RC3 YB3 hwl3 hBn HC
  have HC := Lib.hid (is_yes ha hl hc sa sl sc H S x HCAL.out y m d HD.out w4 ((HH.out.next YB4.out (Nat.le_refl _) (Nat.le_refl _)).mono YB4.out.size) ((HS.out.next YB4.out (Nat.le_refl _) (Nat.le_refl _)).mono YB4.out.size) (HT.out.next YB4.out) hlm slm)
  rw [HF.out] at HC
  have k40 : w4.cell? ⟨w.heap.size, 0, none⟩ = some (.slice ha hl hc) := cell_of_row _ _ 0 _ _ _ RC4.out
  have k41 : w4.cell? ⟨w.heap.size, 1, none⟩ = some (.slice sa sl sc) := cell_of_row _ _ 1 _ _ _ RC4.out
  go_wp2_with fail
  refine HC.out.mono ?_
  rintro e w5 ⟨rfl, hBn⟩
  have RC5 := Lib.hid ((hBn.block w.heap.size hwl4).trans RC4.out)
  have YB5 := Lib.hid (YB4.out.trans (hBn.mono YB4.out.size))
  have hwl5 : w.heap.size < w5.heap.size := Nat.lt_of_lt_of_le hwl4 hBn.size
  clear k40 k41 RC4 YB4 hwl4 hBn HC
  have HC := Lib.hid (kind_yes ha hl hc sa sl sc H S x HCAL.out y m d HD.out w5 ((HH.out.next YB5.out (Nat.le_refl _) (Nat.le_refl _)).mono YB5.out.size) ((HS.out.next YB5.out (Nat.le_refl _) (Nat.le_refl _)).mono YB5.out.size) (HT.out.next YB5.out) hlm slm)
  rw [HF.out, HKA.out] at HC
  have k50 : w5.cell? ⟨w.heap.size, 0, none⟩ = some (.slice ha hl hc) := cell_of_row _ _ 0 _ _ _ RC5.out
  have k51 : w5.cell? ⟨w.heap.size, 1, none⟩ = some (.slice sa sl sc) := cell_of_row _ _ 1 _ _ _ RC5.out
  go_wp2_with fail
  refine HC.out.mono ?_
  rintro e w6 ⟨rfl, hBn⟩
  have RC6 := Lib.hid ((hBn.block w.heap.size hwl5).trans RC5.out)
  have YB6 := Lib.hid (YB5.out.trans (hBn.mono YB5.out.size))
  have hwl6 : w.heap.size < w6.heap.size := Nat.lt_of_lt_of_le hwl5 hBn.size
  clear k50 k51 RC5 YB5 hwl5 hBn HC
  have HC := Lib.hid (season_yes ha hl hc sa sl sc H S x HCAL.out y m d HD.out w6 ((HH.out.next YB6.out (Nat.le_refl _) (Nat.le_refl _)).mono YB6.out.size) ((HS.out.next YB6.out (Nat.le_refl _) (Nat.le_refl _)).mono YB6.out.size) (HT.out.next YB6.out) hlm slm)
  have k60 : w6.cell? ⟨w.heap.size, 0, none⟩ = some (.slice ha hl hc) := cell_of_row _ _ 0 _ _ _ RC6.out
  have k61 : w6.cell? ⟨w.heap.size, 1, none⟩ = some (.slice sa sl sc) := cell_of_row _ _ 1 _ _ _ RC6.out
  go_wp2_with fail
  refine HC.out.mono ?_
  rintro e w7 ⟨⟨s1, hs1, rfl⟩, hBn⟩
  have RC7 := Lib.hid ((hBn.block w.heap.size hwl6).trans RC6.out)
  have YB7 := Lib.hid (YB6.out.trans (hBn.mono YB6.out.size))
  have hwl7 : w.heap.size < w7.heap.size := Nat.lt_of_lt_of_le hwl6 hBn.size
  have HS1 := Lib.hid hs1
  clear hs1
  clear k60 k61 RC6 YB6 hwl6 hBn HC
  have HC := Lib.hid (rIs_any ha hl hc sa sl sc H x y m d HD.out HCAL.out.2.2.1 w7 ((HH.out.next YB7.out (Nat.le_refl _) (Nat.le_refl _)).mono YB7.out.size) HCAL.out.1)
  rw [HF.out] at HC
  have k70 : w7.cell? ⟨w.heap.size, 0, none⟩ = some (.slice ha hl hc) := cell_of_row _ _ 0 _ _ _ RC7.out
  have k71 : w7.cell? ⟨w.heap.size, 1, none⟩ = some (.slice sa sl sc) := cell_of_row _ _ 1 _ _ _ RC7.out
  go_wp2_with fail
  refine HC.out.mono ?_
  rintro e w8 ⟨rfl, hBn⟩
  have RC8 := Lib.hid ((hBn.block w.heap.size hwl7).trans RC7.out)
  have YB8 := Lib.hid (YB7.out.trans (hBn.mono YB7.out.size))
  have hwl8 : w.heap.size < w8.heap.size := Nat.lt_of_lt_of_le hwl7 hBn.size
  clear k70 k71 RC7 YB7 hwl7 hBn HC
  have hff : (f == f) = true := by simp
  have HC := Lib.hid (rKind_any ha hl hc sa sl sc H x y m d HD.out HCAL.out.2.2.1 w8 ((HH.out.next YB8.out (Nat.le_refl _) (Nat.le_refl _)).mono YB8.out.size) HCAL.out.1)
  rw [HF.out, HKA.out] at HC
  have k80 : w8.cell? ⟨w.heap.size, 0, none⟩ = some (.slice ha hl hc) := cell_of_row _ _ 0 _ _ _ RC8.out
  have k81 : w8.cell? ⟨w.heap.size, 1, none⟩ = some (.slice sa sl sc) := cell_of_row _ _ 1 _ _ _ RC8.out
  cases f
  all_goals
    go_wp2_with fail
    refine HC.out.mono ?_
    rintro e w9 ⟨rfl, hBn⟩
    have RC9 := Lib.hid ((hBn.block w.heap.size hwl8).trans RC8.out)
    have YB9 := Lib.hid (YB8.out.trans (hBn.mono YB8.out.size))
    clear hBn HC k80 k81 RC8 YB8
    have HC := Lib.hid (rSeason_any ha hl hc sa sl sc S x y m d HD.out w9 ((HS.out.next YB9.out (Nat.le_refl _) (Nat.le_refl _)).mono YB9.out.size) HCAL.out.2.1 HCAL.out.2.2.2.1)
    have k90 : w9.cell? ⟨w.heap.size, 0, none⟩ = some (.slice ha hl hc) := cell_of_row _ _ 0 _ _ _ RC9.out
    have k91 : w9.cell? ⟨w.heap.size, 1, none⟩ = some (.slice sa sl sc) := cell_of_row _ _ 1 _ _ _ RC9.out
    go_wp2_with fail
    refine HC.out.mono ?_
    rintro e w10 ⟨⟨s2, hs2, rfl⟩, hBn⟩
    have hss := SeaIs.unique HCAL.out.2.2.2.1 HCAL.out.2.2.2.2 HS1.out hs2
    subst hss
    have YB10 := Lib.hid (YB9.out.trans (hBn.mono YB9.out.size))
    clear hBn HC k90 k91 RC9 YB9 hs2
    go_wp2
    go_ret
    exact ⟨rfl, YB10.out⟩
theorem walk_kinds (ha : Option Addr) (hl hc : Nat) (sa : Option Addr) (sl sc : Nat) (H : Nat → Ho) (S : Nat → Se) (x : Int) (w : World) (hT : Tabs w)
    (h0 : (hl ≤ hc ∧ hc ≤ maxLen) ∧ (sl ≤ sc ∧ sc ≤ maxLen) ∧ HosAt w.heap.size w ha hl H ∧ SeasAt w.heap.size w sa sl S) (_h1 : (Lit.int .i64 x).wf = true) :
    Calls Tryd.prog 3 #[calV ha hl hc sa sl sc, .int .i64 x] w fun e w' => e = .returned (.bool true) ∧ Below w.heap.size w w' := by
  obtain ⟨⟨a1, a2⟩, ⟨a3, a4⟩, hH, hS⟩ := h0
  have hlm := Nat.le_trans a1 a2
  have slm := Nat.le_trans a3 a4
  by_cases hg : 120 < hl ∨ 30 < sl
  · exact kindsW_great ha hl hc sa sl sc H S x hg w hH hS hT hlm slm
  · by_cases hcal : CalIs H hl S sl
    · by_cases hd : 0 ≤ x ∧ x ≤ 2932896
      · obtain ⟨y, m, d, hdt⟩ := date_exists x hd.1 hd.2
        exact kindsW_yes ha hl hc sa sl sc H S x hg hcal y m d hdt w hH hS hT hlm slm
      · exact kindsW_no ha hl hc sa sl sc H S x hg hcal hd w hH hS hT hlm slm
    · exact kindsW_bad ha hl hc sa sl sc H S x hg hcal w hH hS hT hlm slm
end Go.Proofs.YtgedcfgmfhlkdaaDoor
