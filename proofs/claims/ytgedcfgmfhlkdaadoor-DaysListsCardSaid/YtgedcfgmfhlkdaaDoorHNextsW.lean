/- The statement DaysNexts, walked. -/
import Derived.Test.YtgedcfgmfhlkdaaDoorHNext
import Derived.Test.YtgedcfgmfhlkdaaDoorHAlive
set_option linter.unusedVariables false
set_option linter.unusedSimpArgs false
namespace Go.Proofs.YtgedcfgmfhlkdaaDoor
open Go.RowKit Go.Shelf
theorem kind_d (ha : Option Addr) (hl hc : Nat) (sa : Option Addr) (sl sc : Nat) (H : Nat → Ho) (S : Nat → Se) (x : Int) (hcal : CalIs H hl S sl) (hx0 : 0 ≤ x) (hx1 : x ≤ 2932896) (w : World) (hH : HosAt w.heap.size w ha hl H) (hS : SeasAt w.heap.size w sa sl S) (hT : Tabs w) (hlm : hl ≤ maxLen) (slm : sl ≤ maxLen) :
    Calls Tryd.prog 14 #[calV ha hl hc sa sl sc, .int .i64 x] w fun e w' => e = .returned (.tuple #[.int .i64 (kindD H hl x), .int .i64 0]) ∧ Below w.heap.size w w' := by
  obtain ⟨y, m, d, hd⟩ := date_exists x hx0 hx1
  rw [kindD_is hd]
  exact kind_yes ha hl hc sa sl sc H S x hcal y m d hd w hH hS hT hlm slm
theorem next_d (ha : Option Addr) (hl hc : Nat) (sa : Option Addr) (sl sc : Nat) (H : Nat → Ho) (S : Nat → Se) (x kd : Int) (hcal : CalIs H hl S sl) (hx0 : 0 ≤ x) (hx1 : x ≤ 2932896) (w : World) (hH : HosAt w.heap.size w ha hl H) (hS : SeasAt w.heap.size w sa sl S) (hT : Tabs w) (hlm : hl ≤ maxLen) (slm : sl ≤ maxLen) :
    Calls Tryd.prog 23 #[calV ha hl hc sa sl sc, .int .i64 x, .int .i64 kd] w fun e w' => (∃ n is, NextIs H hl x kd n is ∧ e = .returned (.tuple #[.int .i64 n, .bool is])) ∧ Below w.heap.size w w' := by
  obtain ⟨y, m, d, hd⟩ := date_exists x hx0 hx1
  exact next_yes ha hl hc sa sl sc H S x kd hcal y m d hd w hH hS hT hlm slm
theorem NextIs.at_it {H : Nat → Ho} {hl : Nat} {x kd n : Int} {is : Bool} (h : NextIs H hl x kd n is) (hx : x ≤ 2932896) (hk : kindD H hl x = kd) : n = x ∧ is = true := by
  rcases h with ⟨a, b, c, d, e, f⟩ | ⟨a, b, c⟩
  · by_cases hh : x < n
    · exact absurd hk (f x (Int.le_refl _) hh)
    · exact ⟨by omega, a⟩
  · exact absurd hk (c x (Int.le_refl _) (by omega) hx)
theorem NextIs.ahead_it {H : Nat → Ho} {hl : Nat} {x kd n m : Int} {was : Bool} (h : NextIs H hl x kd n true) (k : NextIs H hl (x - 1) kd m was) (hk : kindD H hl (x - 1) ≠ kd) : was = false ∨ m = n := by
  rcases h with ⟨a, b, c, d, e, f⟩ | ⟨a, _⟩
  · rcases k with ⟨a', b', c', d', e', f'⟩ | ⟨a', _⟩
    · right
      have hm : m ≠ x - 1 := fun q => hk (q ▸ e')
      rcases Int.lt_trichotomy m n with q | q | q
      · exact absurd e' (f m (by omega) q)
      · exact q
      · exact absurd e (f' n (by omega) q)
    · exact .inl a'
  · cases a
set_option maxRecDepth 100000 in
set_option maxHeartbeats 4000000 in
theorem nextsW_great (ha : Option Addr) (hl hc : Nat) (sa : Option Addr) (sl sc : Nat) (H : Nat → Ho) (S : Nat → Se) (x kd : Int) (hg : 20 < hl) (w : World) (hH : HosAt w.heap.size w ha hl H) (hS : SeasAt w.heap.size w sa sl S) (hT : Tabs w) (hlm : hl ≤ maxLen) (slm : sl ≤ maxLen) :
    Calls Tryd.prog 8 #[calV ha hl hc sa sl sc, .int .i64 x, .int .i64 kd] w fun e w' => e = .returned (.bool true) ∧ Below w.heap.size w w' := by
  have hgi : (20 : Int) < hl := by omega
  have hb0 := (Below.refl _ w).alloc (Nat.le_refl _) (.cells #[.slice ha hl hc, .slice sa sl sc] 25)
  have hzc := heap_alloc_new w (.cells #[.slice ha hl hc, .slice sa sl sc] 25)
  have hsz : (w.alloc (.cells #[.slice ha hl hc, .slice sa sl sc] 25)).heap.size = w.heap.size + 1 := World.size_alloc _ _
  obtain ⟨X, hX⟩ : ∃ X, X = w.alloc (.cells #[.slice ha hl hc, .slice sa sl sc] 25) := ⟨_, rfl⟩
  rw [← hX] at hb0 hzc hsz
  have RC0 := Lib.hid hzc
  have YB0 := Lib.hid hb0
  have hwl0 : w.heap.size < X.heap.size := by omega
  have HH := Lib.hid hH
  have HS := Lib.hid hS
  have HT := Lib.hid hT
  have HX := Lib.hid hX
  clear hb0 hzc hsz hX hH hS hT
  go_enter Tryd.func8, Tryd.ntmps8
  go_wp2_with fail
  rw [← HX.out]
  clear HX
  have HC := Lib.hid (aliveD_any X (HT.out.next YB0.out))
  have k00 : X.cell? ⟨w.heap.size, 0, none⟩ = some (.slice ha hl hc) := cell_of_row _ _ 0 _ _ _ RC0.out
  have k01 : X.cell? ⟨w.heap.size, 1, none⟩ = some (.slice sa sl sc) := cell_of_row _ _ 1 _ _ _ RC0.out
  refine HC.out.mono ?_
  rintro e w1 ⟨rfl, hBn⟩
  have RC1 := Lib.hid ((hBn.block w.heap.size hwl0).trans RC0.out)
  have YB1 := Lib.hid (YB0.out.trans (hBn.mono YB0.out.size))
  have hwl1 : w.heap.size < w1.heap.size := Nat.lt_of_lt_of_le hwl0 hBn.size
  clear k00 k01 RC0 YB0 hwl0 hBn HC
  have k10 : w1.cell? ⟨w.heap.size, 0, none⟩ = some (.slice ha hl hc) := cell_of_row _ _ 0 _ _ _ RC1.out
  go_wp2
  go_ret
  exact ⟨rfl, YB1.out⟩
set_option maxRecDepth 100000 in
set_option maxHeartbeats 4000000 in
theorem nextsW_bad (ha : Option Addr) (hl hc : Nat) (sa : Option Addr) (sl sc : Nat) (H : Nat → Ho) (S : Nat → Se) (x kd : Int) (hg : ¬ 20 < hl) (hcal : ¬ CalIs H hl S sl) (w : World) (hH : HosAt w.heap.size w ha hl H) (hS : SeasAt w.heap.size w sa sl S) (hT : Tabs w) (hlm : hl ≤ maxLen) (slm : sl ≤ maxLen) :
    Calls Tryd.prog 8 #[calV ha hl hc sa sl sc, .int .i64 x, .int .i64 kd] w fun e w' => e = .returned (.bool true) ∧ Below w.heap.size w w' := by
  have hgi : ¬ (20 : Int) < hl := by omega
  have HCE := Lib.hid (calE_no hcal)
  clear hcal
  have hb0 := (Below.refl _ w).alloc (Nat.le_refl _) (.cells #[.slice ha hl hc, .slice sa sl sc] 25)
  have hzc := heap_alloc_new w (.cells #[.slice ha hl hc, .slice sa sl sc] 25)
  have hsz : (w.alloc (.cells #[.slice ha hl hc, .slice sa sl sc] 25)).heap.size = w.heap.size + 1 := World.size_alloc _ _
  obtain ⟨X, hX⟩ : ∃ X, X = w.alloc (.cells #[.slice ha hl hc, .slice sa sl sc] 25) := ⟨_, rfl⟩
  rw [← hX] at hb0 hzc hsz
  have RC0 := Lib.hid hzc
  have YB0 := Lib.hid hb0
  have hwl0 : w.heap.size < X.heap.size := by omega
  have HH := Lib.hid hH
  have HS := Lib.hid hS
  have HT := Lib.hid hT
  have HX := Lib.hid hX
  clear hb0 hzc hsz hX hH hS hT
  go_enter Tryd.func8, Tryd.ntmps8
  go_wp2_with fail
  rw [← HX.out]
  clear HX
  have HC := Lib.hid (aliveD_any X (HT.out.next YB0.out))
  have k00 : X.cell? ⟨w.heap.size, 0, none⟩ = some (.slice ha hl hc) := cell_of_row _ _ 0 _ _ _ RC0.out
  have k01 : X.cell? ⟨w.heap.size, 1, none⟩ = some (.slice sa sl sc) := cell_of_row _ _ 1 _ _ _ RC0.out
  refine HC.out.mono ?_
  rintro e w1 ⟨rfl, hBn⟩
  have RC1 := Lib.hid ((hBn.block w.heap.size hwl0).trans RC0.out)
  have YB1 := Lib.hid (YB0.out.trans (hBn.mono YB0.out.size))
  have hwl1 : w.heap.size < w1.heap.size := Nat.lt_of_lt_of_le hwl0 hBn.size
  clear k00 k01 RC0 YB0 hwl0 hBn HC
  have HC := Lib.hid (checkD_any ha hl hc sa sl sc H S w1 ((HH.out.next YB1.out (Nat.le_refl _) (Nat.le_refl _)).mono YB1.out.size) ((HS.out.next YB1.out (Nat.le_refl _) (Nat.le_refl _)).mono YB1.out.size) (HT.out.next YB1.out) hlm slm)
  rw [HCE.out] at HC
  have k10 : w1.cell? ⟨w.heap.size, 0, none⟩ = some (.slice ha hl hc) := cell_of_row _ _ 0 _ _ _ RC1.out
  have k11 : w1.cell? ⟨w.heap.size, 1, none⟩ = some (.slice sa sl sc) := cell_of_row _ _ 1 _ _ _ RC1.out
  go_wp2_with fail
  refine HC.out.mono ?_
  rintro e w2 ⟨rfl, hBn⟩
  have RC2 := Lib.hid ((hBn.block w.heap.size hwl1).trans RC1.out)
  have YB2 := Lib.hid (YB1.out.trans (hBn.mono YB1.out.size))
  have hwl2 : w.heap.size < w2.heap.size := Nat.lt_of_lt_of_le hwl1 hBn.size
  clear k10 k11 RC1 YB1 hwl1 hBn HC
  go_wp2
  go_ret
  exact ⟨rfl, YB2.out⟩
set_option maxRecDepth 100000 in
set_option maxHeartbeats 4000000 in
theorem nextsW_low (ha : Option Addr) (hl hc : Nat) (sa : Option Addr) (sl sc : Nat) (H : Nat → Ho) (S : Nat → Se) (x kd : Int) (hg : ¬ 20 < hl) (hcal : CalIs H hl S sl) (hx : x < 1) (w : World) (hH : HosAt w.heap.size w ha hl H) (hS : SeasAt w.heap.size w sa sl S) (hT : Tabs w) (hlm : hl ≤ maxLen) (slm : sl ≤ maxLen) :
    Calls Tryd.prog 8 #[calV ha hl hc sa sl sc, .int .i64 x, .int .i64 kd] w fun e w' => e = .returned (.bool true) ∧ Below w.heap.size w w' := by
  have hgi : ¬ (20 : Int) < hl := by omega
  have HCE := Lib.hid (calE_yes hcal)
  have HCAL := Lib.hid hcal
  clear hcal
  have hb0 := (Below.refl _ w).alloc (Nat.le_refl _) (.cells #[.slice ha hl hc, .slice sa sl sc] 25)
  have hzc := heap_alloc_new w (.cells #[.slice ha hl hc, .slice sa sl sc] 25)
  have hsz : (w.alloc (.cells #[.slice ha hl hc, .slice sa sl sc] 25)).heap.size = w.heap.size + 1 := World.size_alloc _ _
  obtain ⟨X, hX⟩ : ∃ X, X = w.alloc (.cells #[.slice ha hl hc, .slice sa sl sc] 25) := ⟨_, rfl⟩
  rw [← hX] at hb0 hzc hsz
  have RC0 := Lib.hid hzc
  have YB0 := Lib.hid hb0
  have hwl0 : w.heap.size < X.heap.size := by omega
  have HH := Lib.hid hH
  have HS := Lib.hid hS
  have HT := Lib.hid hT
  have HX := Lib.hid hX
  clear hb0 hzc hsz hX hH hS hT
  go_enter Tryd.func8, Tryd.ntmps8
  go_wp2_with fail
  rw [← HX.out]
  clear HX
  have HC := Lib.hid (aliveD_any X (HT.out.next YB0.out))
  have k00 : X.cell? ⟨w.heap.size, 0, none⟩ = some (.slice ha hl hc) := cell_of_row _ _ 0 _ _ _ RC0.out
  have k01 : X.cell? ⟨w.heap.size, 1, none⟩ = some (.slice sa sl sc) := cell_of_row _ _ 1 _ _ _ RC0.out
  refine HC.out.mono ?_
  rintro e w1 ⟨rfl, hBn⟩
  have RC1 := Lib.hid ((hBn.block w.heap.size hwl0).trans RC0.out)
  have YB1 := Lib.hid (YB0.out.trans (hBn.mono YB0.out.size))
  have hwl1 : w.heap.size < w1.heap.size := Nat.lt_of_lt_of_le hwl0 hBn.size
  clear k00 k01 RC0 YB0 hwl0 hBn HC
  have HC := Lib.hid (checkD_any ha hl hc sa sl sc H S w1 ((HH.out.next YB1.out (Nat.le_refl _) (Nat.le_refl _)).mono YB1.out.size) ((HS.out.next YB1.out (Nat.le_refl _) (Nat.le_refl _)).mono YB1.out.size) (HT.out.next YB1.out) hlm slm)
  rw [HCE.out] at HC
  have k10 : w1.cell? ⟨w.heap.size, 0, none⟩ = some (.slice ha hl hc) := cell_of_row _ _ 0 _ _ _ RC1.out
  have k11 : w1.cell? ⟨w.heap.size, 1, none⟩ = some (.slice sa sl sc) := cell_of_row _ _ 1 _ _ _ RC1.out
  go_wp2_with fail
  refine HC.out.mono ?_
  rintro e w2 ⟨rfl, hBn⟩
  have RC2 := Lib.hid ((hBn.block w.heap.size hwl1).trans RC1.out)
  have YB2 := Lib.hid (YB1.out.trans (hBn.mono YB1.out.size))
  have hwl2 : w.heap.size < w2.heap.size := Nat.lt_of_lt_of_le hwl1 hBn.size
  clear k10 k11 RC1 YB1 hwl1 hBn HC
  go_wp2
  go_ret
  exact ⟨rfl, YB2.out⟩
set_option maxRecDepth 100000 in
set_option maxHeartbeats 4000000 in
theorem nextsW_high (ha : Option Addr) (hl hc : Nat) (sa : Option Addr) (sl sc : Nat) (H : Nat → Ho) (S : Nat → Se) (x kd : Int) (hg : ¬ 20 < hl) (hcal : CalIs H hl S sl) (hx : 2000000 < x) (w : World) (hH : HosAt w.heap.size w ha hl H) (hS : SeasAt w.heap.size w sa sl S) (hT : Tabs w) (hlm : hl ≤ maxLen) (slm : sl ≤ maxLen) :
    Calls Tryd.prog 8 #[calV ha hl hc sa sl sc, .int .i64 x, .int .i64 kd] w fun e w' => e = .returned (.bool true) ∧ Below w.heap.size w w' := by
  have hgi : ¬ (20 : Int) < hl := by omega
  have HCE := Lib.hid (calE_yes hcal)
  have HCAL := Lib.hid hcal
  clear hcal
  have hx1 : ¬ x < 1 := by omega
  have hb0 := (Below.refl _ w).alloc (Nat.le_refl _) (.cells #[.slice ha hl hc, .slice sa sl sc] 25)
  have hzc := heap_alloc_new w (.cells #[.slice ha hl hc, .slice sa sl sc] 25)
  have hsz : (w.alloc (.cells #[.slice ha hl hc, .slice sa sl sc] 25)).heap.size = w.heap.size + 1 := World.size_alloc _ _
  obtain ⟨X, hX⟩ : ∃ X, X = w.alloc (.cells #[.slice ha hl hc, .slice sa sl sc] 25) := ⟨_, rfl⟩
  rw [← hX] at hb0 hzc hsz
  have RC0 := Lib.hid hzc
  have YB0 := Lib.hid hb0
  have hwl0 : w.heap.size < X.heap.size := by omega
  have HH := Lib.hid hH
  have HS := Lib.hid hS
  have HT := Lib.hid hT
  have HX := Lib.hid hX
  clear hb0 hzc hsz hX hH hS hT
  go_enter Tryd.func8, Tryd.ntmps8
  go_wp2_with fail
  rw [← HX.out]
  clear HX
  have HC := Lib.hid (aliveD_any X (HT.out.next YB0.out))
  have k00 : X.cell? ⟨w.heap.size, 0, none⟩ = some (.slice ha hl hc) := cell_of_row _ _ 0 _ _ _ RC0.out
  have k01 : X.cell? ⟨w.heap.size, 1, none⟩ = some (.slice sa sl sc) := cell_of_row _ _ 1 _ _ _ RC0.out
  refine HC.out.mono ?_
  rintro e w1 ⟨rfl, hBn⟩
  have RC1 := Lib.hid ((hBn.block w.heap.size hwl0).trans RC0.out)
  have YB1 := Lib.hid (YB0.out.trans (hBn.mono YB0.out.size))
  have hwl1 : w.heap.size < w1.heap.size := Nat.lt_of_lt_of_le hwl0 hBn.size
  clear k00 k01 RC0 YB0 hwl0 hBn HC
  have HC := Lib.hid (checkD_any ha hl hc sa sl sc H S w1 ((HH.out.next YB1.out (Nat.le_refl _) (Nat.le_refl _)).mono YB1.out.size) ((HS.out.next YB1.out (Nat.le_refl _) (Nat.le_refl _)).mono YB1.out.size) (HT.out.next YB1.out) hlm slm)
  rw [HCE.out] at HC
  have k10 : w1.cell? ⟨w.heap.size, 0, none⟩ = some (.slice ha hl hc) := cell_of_row _ _ 0 _ _ _ RC1.out
  have k11 : w1.cell? ⟨w.heap.size, 1, none⟩ = some (.slice sa sl sc) := cell_of_row _ _ 1 _ _ _ RC1.out
  go_wp2_with fail
  refine HC.out.mono ?_
  rintro e w2 ⟨rfl, hBn⟩
  have RC2 := Lib.hid ((hBn.block w.heap.size hwl1).trans RC1.out)
  have YB2 := Lib.hid (YB1.out.trans (hBn.mono YB1.out.size))
  have hwl2 : w.heap.size < w2.heap.size := Nat.lt_of_lt_of_le hwl1 hBn.size
  clear k10 k11 RC1 YB1 hwl1 hBn HC
  go_wp2
  go_ret
  exact ⟨rfl, YB2.out⟩
set_option maxRecDepth 100000 in
set_option maxHeartbeats 4000000 in
theorem nextsW_yes (ha : Option Addr) (hl hc : Nat) (sa : Option Addr) (sl sc : Nat) (H : Nat → Ho) (S : Nat → Se) (x kd : Int) (hg : ¬ 20 < hl) (hcal : CalIs H hl S sl) (hx0 : ¬ x < 1) (hx1 : ¬ 2000000 < x) (w : World) (hH : HosAt w.heap.size w ha hl H) (hS : SeasAt w.heap.size w sa sl S) (hT : Tabs w) (hlm : hl ≤ maxLen) (slm : sl ≤ maxLen) :
    Calls Tryd.prog 8 #[calV ha hl hc sa sl sc, .int .i64 x, .int .i64 kd] w fun e w' => e = .returned (.bool true) ∧ Below w.heap.size w w' := by
  have hgi : ¬ (20 : Int) < hl := by omega
  have HCE := Lib.hid (calE_yes hcal)
  have HCAL := Lib.hid hcal
  clear hcal
  have hb0 := (Below.refl _ w).alloc (Nat.le_refl _) (.cells #[.slice ha hl hc, .slice sa sl sc] 25)
  have hzc := heap_alloc_new w (.cells #[.slice ha hl hc, .slice sa sl sc] 25)
  have hsz : (w.alloc (.cells #[.slice ha hl hc, .slice sa sl sc] 25)).heap.size = w.heap.size + 1 := World.size_alloc _ _
  obtain ⟨X, hX⟩ : ∃ X, X = w.alloc (.cells #[.slice ha hl hc, .slice sa sl sc] 25) := ⟨_, rfl⟩
  rw [← hX] at hb0 hzc hsz
  have RC0 := Lib.hid hzc
  have YB0 := Lib.hid hb0
  have hwl0 : w.heap.size < X.heap.size := by omega
  have HH := Lib.hid hH
  have HS := Lib.hid hS
  have HT := Lib.hid hT
  have HX := Lib.hid hX
  clear hb0 hzc hsz hX hH hS hT
  go_enter Tryd.func8, Tryd.ntmps8
  go_wp2_with fail
  rw [← HX.out]
  clear HX
  have HC := Lib.hid (aliveD_any X (HT.out.next YB0.out))
  have k00 : X.cell? ⟨w.heap.size, 0, none⟩ = some (.slice ha hl hc) := cell_of_row _ _ 0 _ _ _ RC0.out
  have k01 : X.cell? ⟨w.heap.size, 1, none⟩ = some (.slice sa sl sc) := cell_of_row _ _ 1 _ _ _ RC0.out
  refine HC.out.mono ?_
  rintro e w1 ⟨rfl, hBn⟩
  have RC1 := Lib.hid ((hBn.block w.heap.size hwl0).trans RC0.out)
  have YB1 := Lib.hid (YB0.out.trans (hBn.mono YB0.out.size))
  have hwl1 : w.heap.size < w1.heap.size := Nat.lt_of_lt_of_le hwl0 hBn.size
  clear k00 k01 RC0 YB0 hwl0 hBn HC
  have HC := Lib.hid (checkD_any ha hl hc sa sl sc H S w1 ((HH.out.next YB1.out (Nat.le_refl _) (Nat.le_refl _)).mono YB1.out.size) ((HS.out.next YB1.out (Nat.le_refl _) (Nat.le_refl _)).mono YB1.out.size) (HT.out.next YB1.out) hlm slm)
  rw [HCE.out] at HC
  have k10 : w1.cell? ⟨w.heap.size, 0, none⟩ = some (.slice ha hl hc) := cell_of_row _ _ 0 _ _ _ RC1.out
  have k11 : w1.cell? ⟨w.heap.size, 1, none⟩ = some (.slice sa sl sc) := cell_of_row _ _ 1 _ _ _ RC1.out
  go_wp2_with fail
  refine HC.out.mono ?_
  rintro e w2 ⟨rfl, hBn⟩
  have RC2 := Lib.hid ((hBn.block w.heap.size hwl1).trans RC1.out)
  have YB2 := Lib.hid (YB1.out.trans (hBn.mono YB1.out.size))
  have hwl2 : w.heap.size < w2.heap.size := Nat.lt_of_lt_of_le hwl1 hBn.size
  clear k10 k11 RC1 YB1 hwl1 hBn HC
  have HC := Lib.hid (next_d ha hl hc sa sl sc H S x kd HCAL.out (by omega) (by omega) w2 ((HH.out.next YB2.out (Nat.le_refl _) (Nat.le_refl _)).mono YB2.out.size) ((HS.out.next YB2.out (Nat.le_refl _) (Nat.le_refl _)).mono YB2.out.size) (HT.out.next YB2.out) hlm slm)
  have k20 : w2.cell? ⟨w.heap.size, 0, none⟩ = some (.slice ha hl hc) := cell_of_row _ _ 0 _ _ _ RC2.out
  have k21 : w2.cell? ⟨w.heap.size, 1, none⟩ = some (.slice sa sl sc) := cell_of_row _ _ 1 _ _ _ RC2.out
  go_wp2_with fail
  refine HC.out.mono ?_
  rintro e w3 ⟨⟨n, is, hni, rfl⟩, hBn⟩
  have RC3 := Lib.hid ((hBn.block w.heap.size hwl2).trans RC2.out)
  have YB3 := Lib.hid (YB2.out.trans (hBn.mono YB2.out.size))
  have hwl3 : w.heap.size < w3.heap.size := Nat.lt_of_lt_of_le hwl2 hBn.size
  clear k20 k21 RC2 YB2 hwl2 hBn HC
  have HN := Lib.hid hni
  clear hni
  cases is
  · have e : n = 0 := by
      rcases HN.out with ⟨q, _⟩ | ⟨_, q, _⟩
      · cases q
      · exact q
    subst e
    go_wp2
    go_ret
    exact ⟨rfl, YB3.out⟩
  obtain ⟨hn0, hn1, hkn, hall⟩ : x ≤ n ∧ n ≤ 2932896 ∧ kindD H hl n = kd ∧ ∀ i, x ≤ i → i < n → kindD H hl i ≠ kd := by
    rcases HN.out with ⟨q, b, c, d, e, f⟩ | ⟨q, _⟩
    · exact ⟨b, d, e, f⟩
    · cases q
  have HNI := Lib.hid HN.out
  have HKN := Lib.hid hkn
  have HALL := Lib.hid hall
  obtain ⟨kb, hkb⟩ : ∃ k, kindD H hl (x - 1) = k := ⟨_, rfl⟩
  have HKB := Lib.hid hkb
  clear HN hkn hall hkb
  go_wp2_with fail
  go_loopw [10] (fun i wr => ∃ j : Int, i = .int .i64 j ∧ (x ≤ j ∧ j ≤ n) ∧ Below w.heap.size w wr ∧ wr.heap[w.heap.size]? = some (.cells #[.slice ha hl hc, .slice sa sl sc] 25)) (fun i _ => (n - intOf i).toNat)
  case atStart => exact ⟨x, rfl, ⟨Int.le_refl _, hn0⟩, YB3.out, RC3.out⟩
  case round =>
    clear RC3 YB3 hwl3
    obtain ⟨j, rfl, ⟨hj0, hj1⟩, hb, hr⟩ := hrel
    obtain ⟨w4, rfl⟩ : ∃ w4 : World, w4 = wr := ⟨_, rfl⟩
    have hwl4 : w.heap.size < w4.heap.size := (Array.getElem?_eq_some_iff.1 hr).1
    have YB4 := Lib.hid hb
    have RC4 := Lib.hid hr
    clear hb hr
    by_cases h1 : j < n
    · by_cases h2 : j < x + 400
      · obtain ⟨kj, hkj⟩ : ∃ k, kindD H hl j = k := ⟨_, rfl⟩
        have hne : kj ≠ kd := hkj ▸ HALL.out j hj0 h1
        have q0 : (kj == kd) = false := by simp [hne]
        have HKJ := Lib.hid hkj
        clear hkj hne
        have HC := Lib.hid (kind_d ha hl hc sa sl sc H S j HCAL.out (by omega) (by omega) w4 ((HH.out.next YB4.out (Nat.le_refl _) (Nat.le_refl _)).mono YB4.out.size) ((HS.out.next YB4.out (Nat.le_refl _) (Nat.le_refl _)).mono YB4.out.size) (HT.out.next YB4.out) hlm slm)
        rw [HKJ.out] at HC
        have k40 : w4.cell? ⟨w.heap.size, 0, none⟩ = some (.slice ha hl hc) := cell_of_row _ _ 0 _ _ _ RC4.out
        have k41 : w4.cell? ⟨w.heap.size, 1, none⟩ = some (.slice sa sl sc) := cell_of_row _ _ 1 _ _ _ RC4.out
        go_wp2_with fail
        refine HC.out.mono ?_
        rintro e w5 ⟨rfl, hBn⟩
        have RC5 := Lib.hid ((hBn.block w.heap.size hwl4).trans RC4.out)
        have YB5 := Lib.hid (YB4.out.trans (hBn.mono YB4.out.size))
        have hwl5 : w.heap.size < w5.heap.size := Nat.lt_of_lt_of_le hwl4 hBn.size
        clear k40 k41 RC4 YB4 hwl4 hBn HC
        go_wp2
        go_roundw
        case rel => exact ⟨j + 1, by go_num, ⟨by omega, by omega⟩, YB5.out, RC5.out⟩
        case measure => first | (simp [intOf]; done) | (simp [intOf]; omega)
      · clear HALL
        have HC := Lib.hid (kind_d ha hl hc sa sl sc H S n HCAL.out (by omega) (by omega) w4 ((HH.out.next YB4.out (Nat.le_refl _) (Nat.le_refl _)).mono YB4.out.size) ((HS.out.next YB4.out (Nat.le_refl _) (Nat.le_refl _)).mono YB4.out.size) (HT.out.next YB4.out) hlm slm)
        rw [HKN.out] at HC
        have k40 : w4.cell? ⟨w.heap.size, 0, none⟩ = some (.slice ha hl hc) := cell_of_row _ _ 0 _ _ _ RC4.out
        have k41 : w4.cell? ⟨w.heap.size, 1, none⟩ = some (.slice sa sl sc) := cell_of_row _ _ 1 _ _ _ RC4.out
        go_wp2_with fail
        refine HC.out.mono ?_
        rintro e w5 ⟨rfl, hBn⟩
        have RC5 := Lib.hid ((hBn.block w.heap.size hwl4).trans RC4.out)
        have YB5 := Lib.hid (YB4.out.trans (hBn.mono YB4.out.size))
        have hwl5 : w.heap.size < w5.heap.size := Nat.lt_of_lt_of_le hwl4 hBn.size
        clear k40 k41 RC4 YB4 hwl4 hBn HC
        have HC := Lib.hid (kind_d ha hl hc sa sl sc H S (x - 1) HCAL.out (by omega) (by omega) w5 ((HH.out.next YB5.out (Nat.le_refl _) (Nat.le_refl _)).mono YB5.out.size) ((HS.out.next YB5.out (Nat.le_refl _) (Nat.le_refl _)).mono YB5.out.size) (HT.out.next YB5.out) hlm slm)
        rw [HKB.out] at HC
        have k50 : w5.cell? ⟨w.heap.size, 0, none⟩ = some (.slice ha hl hc) := cell_of_row _ _ 0 _ _ _ RC5.out
        have k51 : w5.cell? ⟨w.heap.size, 1, none⟩ = some (.slice sa sl sc) := cell_of_row _ _ 1 _ _ _ RC5.out
        go_wp2_with fail
        refine HC.out.mono ?_
        rintro e w6 ⟨rfl, hBn⟩
        have RC6 := Lib.hid ((hBn.block w.heap.size hwl5).trans RC5.out)
        have YB6 := Lib.hid (YB5.out.trans (hBn.mono YB5.out.size))
        have hwl6 : w.heap.size < w6.heap.size := Nat.lt_of_lt_of_le hwl5 hBn.size
        clear k50 k51 RC5 YB5 hwl5 hBn HC
        have HC := Lib.hid (next_d ha hl hc sa sl sc H S (x - 1) kd HCAL.out (by omega) (by omega) w6 ((HH.out.next YB6.out (Nat.le_refl _) (Nat.le_refl _)).mono YB6.out.size) ((HS.out.next YB6.out (Nat.le_refl _) (Nat.le_refl _)).mono YB6.out.size) (HT.out.next YB6.out) hlm slm)
        have k60 : w6.cell? ⟨w.heap.size, 0, none⟩ = some (.slice ha hl hc) := cell_of_row _ _ 0 _ _ _ RC6.out
        have k61 : w6.cell? ⟨w.heap.size, 1, none⟩ = some (.slice sa sl sc) := cell_of_row _ _ 1 _ _ _ RC6.out
        go_wp2_with fail
        refine HC.out.mono ?_
        rintro e w7 ⟨⟨m, was, hm, rfl⟩, hBn⟩
        have RC7 := Lib.hid ((hBn.block w.heap.size hwl6).trans RC6.out)
        have YB7 := Lib.hid (YB6.out.trans (hBn.mono YB6.out.size))
        have hwl7 : w.heap.size < w7.heap.size := Nat.lt_of_lt_of_le hwl6 hBn.size
        clear k60 k61 RC6 YB6 hwl6 hBn HC
        by_cases hke : kb = kd
        · obtain ⟨e1, e2⟩ := hm.at_it (by omega) (HKB.out.trans hke)
          subst e1 e2 hke
          have q2 : (kb == kb) = true := by simp
          have q3 : ((x - 1 : Int) == x - 1) = true := by simp
          clear hm
          go_wp2
          go_ret
          exact ⟨rfl, YB7.out⟩
        · have q2 : (kb == kd) = false := by simp [hke]
          have q1 : (kd == kd) = true := by simp
          have q5 : (kb != kd) = true := by simp [hke]
          have HKE := Lib.hid hke
          have HOR := Lib.hid (HNI.out.ahead_it hm (fun q => hke (HKB.out.symm.trans q)))
          clear hm hke
          cases was
          · clear HOR
            go_wp2
            go_ret
            exact ⟨rfl, YB7.out⟩
          · have e : m = n := HOR.out.resolve_left (by simp)
            subst e
            have q4 : (m == m) = true := by simp
            clear HOR
            go_wp2
            go_ret
            exact ⟨rfl, YB7.out⟩
    · clear HALL
      have HC := Lib.hid (kind_d ha hl hc sa sl sc H S n HCAL.out (by omega) (by omega) w4 ((HH.out.next YB4.out (Nat.le_refl _) (Nat.le_refl _)).mono YB4.out.size) ((HS.out.next YB4.out (Nat.le_refl _) (Nat.le_refl _)).mono YB4.out.size) (HT.out.next YB4.out) hlm slm)
      rw [HKN.out] at HC
      have k40 : w4.cell? ⟨w.heap.size, 0, none⟩ = some (.slice ha hl hc) := cell_of_row _ _ 0 _ _ _ RC4.out
      have k41 : w4.cell? ⟨w.heap.size, 1, none⟩ = some (.slice sa sl sc) := cell_of_row _ _ 1 _ _ _ RC4.out
      go_wp2_with fail
      refine HC.out.mono ?_
      rintro e w5 ⟨rfl, hBn⟩
      have RC5 := Lib.hid ((hBn.block w.heap.size hwl4).trans RC4.out)
      have YB5 := Lib.hid (YB4.out.trans (hBn.mono YB4.out.size))
      have hwl5 : w.heap.size < w5.heap.size := Nat.lt_of_lt_of_le hwl4 hBn.size
      clear k40 k41 RC4 YB4 hwl4 hBn HC
      have HC := Lib.hid (kind_d ha hl hc sa sl sc H S (x - 1) HCAL.out (by omega) (by omega) w5 ((HH.out.next YB5.out (Nat.le_refl _) (Nat.le_refl _)).mono YB5.out.size) ((HS.out.next YB5.out (Nat.le_refl _) (Nat.le_refl _)).mono YB5.out.size) (HT.out.next YB5.out) hlm slm)
      rw [HKB.out] at HC
      have k50 : w5.cell? ⟨w.heap.size, 0, none⟩ = some (.slice ha hl hc) := cell_of_row _ _ 0 _ _ _ RC5.out
      have k51 : w5.cell? ⟨w.heap.size, 1, none⟩ = some (.slice sa sl sc) := cell_of_row _ _ 1 _ _ _ RC5.out
      go_wp2_with fail
      refine HC.out.mono ?_
      rintro e w6 ⟨rfl, hBn⟩
      have RC6 := Lib.hid ((hBn.block w.heap.size hwl5).trans RC5.out)
      have YB6 := Lib.hid (YB5.out.trans (hBn.mono YB5.out.size))
      have hwl6 : w.heap.size < w6.heap.size := Nat.lt_of_lt_of_le hwl5 hBn.size
      clear k50 k51 RC5 YB5 hwl5 hBn HC
      have HC := Lib.hid (next_d ha hl hc sa sl sc H S (x - 1) kd HCAL.out (by omega) (by omega) w6 ((HH.out.next YB6.out (Nat.le_refl _) (Nat.le_refl _)).mono YB6.out.size) ((HS.out.next YB6.out (Nat.le_refl _) (Nat.le_refl _)).mono YB6.out.size) (HT.out.next YB6.out) hlm slm)
      have k60 : w6.cell? ⟨w.heap.size, 0, none⟩ = some (.slice ha hl hc) := cell_of_row _ _ 0 _ _ _ RC6.out
      have k61 : w6.cell? ⟨w.heap.size, 1, none⟩ = some (.slice sa sl sc) := cell_of_row _ _ 1 _ _ _ RC6.out
      go_wp2_with fail
      refine HC.out.mono ?_
      rintro e w7 ⟨⟨m, was, hm, rfl⟩, hBn⟩
      have RC7 := Lib.hid ((hBn.block w.heap.size hwl6).trans RC6.out)
      have YB7 := Lib.hid (YB6.out.trans (hBn.mono YB6.out.size))
      have hwl7 : w.heap.size < w7.heap.size := Nat.lt_of_lt_of_le hwl6 hBn.size
      clear k60 k61 RC6 YB6 hwl6 hBn HC
      by_cases hke : kb = kd
      · obtain ⟨e1, e2⟩ := hm.at_it (by omega) (HKB.out.trans hke)
        subst e1 e2 hke
        have q2 : (kb == kb) = true := by simp
        have q3 : ((x - 1 : Int) == x - 1) = true := by simp
        clear hm
        go_wp2
        go_ret
        exact ⟨rfl, YB7.out⟩
      · have q2 : (kb == kd) = false := by simp [hke]
        have q1 : (kd == kd) = true := by simp
        have q5 : (kb != kd) = true := by simp [hke]
        have HKE := Lib.hid hke
        have HOR := Lib.hid (HNI.out.ahead_it hm (fun q => hke (HKB.out.symm.trans q)))
        clear hm hke
        cases was
        · clear HOR
          go_wp2
          go_ret
          exact ⟨rfl, YB7.out⟩
        · have e : m = n := HOR.out.resolve_left (by simp)
          subst e
          have q4 : (m == m) = true := by simp
          clear HOR
          go_wp2
          go_ret
          exact ⟨rfl, YB7.out⟩
theorem walk_nexts (ha : Option Addr) (hl hc : Nat) (sa : Option Addr) (sl sc : Nat) (H : Nat → Ho) (S : Nat → Se) (x kd : Int) (w : World) (hT : Tabs w)
    (h0 : (hl ≤ hc ∧ hc ≤ maxLen) ∧ (sl ≤ sc ∧ sc ≤ maxLen) ∧ HosAt w.heap.size w ha hl H ∧ SeasAt w.heap.size w sa sl S) (_h1 : (Lit.int .i64 x).wf = true) (_h2 : (Lit.int .i64 kd).wf = true) :
    Calls Tryd.prog 8 #[calV ha hl hc sa sl sc, .int .i64 x, .int .i64 kd] w fun e w' => e = .returned (.bool true) ∧ Below w.heap.size w w' := by
  obtain ⟨⟨a1, a2⟩, ⟨a3, a4⟩, hH, hS⟩ := h0
  have hlm := Nat.le_trans a1 a2
  have slm := Nat.le_trans a3 a4
  by_cases hg : 20 < hl
  · exact nextsW_great ha hl hc sa sl sc H S x kd hg w hH hS hT hlm slm
  · by_cases hcal : CalIs H hl S sl
    · by_cases hx : x < 1
      · exact nextsW_low ha hl hc sa sl sc H S x kd hg hcal hx w hH hS hT hlm slm
      · by_cases hx1 : 2000000 < x
        · exact nextsW_high ha hl hc sa sl sc H S x kd hg hcal hx1 w hH hS hT hlm slm
        · exact nextsW_yes ha hl hc sa sl sc H S x kd hg hcal hx hx1 w hH hS hT hlm slm
    · exact nextsW_bad ha hl hc sa sl sc H S x kd hg hcal w hH hS hT hlm slm
end Go.Proofs.YtgedcfgmfhlkdaaDoor
