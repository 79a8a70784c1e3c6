/- Contracts of the document's small functions: Day, Easter, behind, holiday. -/
import Derived.Test.YtgedcfgmfhlkdaaDoorHLeaf
import Derived.Test.YtgedcfgmfhlkdaaDoorHHol
import Derived.Test.YtgedcfgmfhlkdaaDoorKRNth
import Derived.Test.YtgedcfgmfhlkdaaDoorHIter
set_option linter.unusedVariables false
set_option linter.unusedSimpArgs false
namespace Go.Proofs.YtgedcfgmfhlkdaaDoor
open Go.RowKit Go.Shelf
theorem rDay_any (x : Int) (w : World) :
    Calls Tryd.prog 24 #[.int .i64 x] w fun e w' => e = .returned (.bool (decide (0 ≤ x ∧ x ≤ 2932896))) ∧ w = w' := by
  by_cases h0 : 0 ≤ x <;> by_cases h1 : x ≤ 2932896
  · rw [show decide (0 ≤ x ∧ x ≤ 2932896) = true from decide_eq_true ⟨h0, h1⟩]
    go_enter Tryd.func24, Tryd.ntmps24
    go_wp2
    go_ret
    exact ⟨rfl, rfl⟩
  all_goals
    rw [show decide (0 ≤ x ∧ x ≤ 2932896) = false from decide_eq_false (by omega)]
    go_enter Tryd.func24, Tryd.ntmps24
    go_wp2
    go_ret
    exact ⟨rfl, rfl⟩
set_option maxRecDepth 100000 in
set_option maxHeartbeats 2000000 in
theorem rEaster_any (y : Int) (h0 : 1970 ≤ y) (h1 : y ≤ 9999) (w : World) :
    Calls Tryd.prog 21 #[.int .i64 y] w fun e w' => e = .returned (.tuple #[.int .i64 (eaM y), .int .i64 (eaD y)]) ∧ w = w' := by
  have e4 : y % 100 % 4 = y % 4 := by omega
  simp only [eaM, eaD, eaN, eaL, eaH, e4]
  clear e4
  go_enter Tryd.func21, Tryd.ntmps21
  go_wp2
  go_ret2
  exact ⟨rfl, rfl⟩
theorem rbehind_any (x y : Int) (h0 : 1970 ≤ y) (h1 : y ≤ 9999) (hx0 : 0 ≤ x) (hx1 : x ≤ 2932896) (w : World) :
    Calls Tryd.prog 60 #[.int .i64 x, .int .i64 y] w fun e w' => e = .returned (.int .i64 (x - eaDay y)) ∧ w = w' := by
  have HE := Lib.hid (rEaster_any y h0 h1)
  have hm := ea_may h0 h1
  have hdb := day_bounds hm
  have hd : ∀ W, Calls Tryd.prog 22 #[.int .i64 y, .int .i64 (eaM y), .int .i64 (eaD y)] W fun e w' => e = .returned (.tuple #[.int .i64 (eaDay y), .int .i64 0]) ∧ W = w' := fun W => by
    have := rday_any y (eaM y) (eaD y) W
    rw [mayE_yes hm, show dayE y (eaM y) (eaD y) = eaDay y by unfold dayE eaDay; rw [if_pos hm]] at this
    exact this
  obtain ⟨N, hN⟩ : ∃ N, N = eaDay y := ⟨_, rfl⟩
  obtain ⟨em, hem⟩ : ∃ N, N = eaM y := ⟨_, rfl⟩
  obtain ⟨ed, hed⟩ : ∃ N, N = eaD y := ⟨_, rfl⟩
  have hdb2 : 0 ≤ N ∧ N ≤ 2932896 := by rw [hN]; exact hdb
  rw [← hN, ← hem, ← hed] at hd
  rw [← hem, ← hed] at HE
  rw [← hN]
  have HD := Lib.hid hd
  clear hd hdb hm hN hem hed
  obtain ⟨n1, n2⟩ := hdb2
  go_enter Tryd.func60, Tryd.ntmps60
  go_wp2_with (first
    | (go_at_call 21; refine (HE.out _).mono ?_; rintro e w1 ⟨rfl, rfl⟩)
    | (go_at_call 22; refine (HD.out _).mono ?_; rintro e w2 ⟨rfl, rfl⟩))
  go_ret
  exact ⟨rfl, rfl⟩
set_option maxRecDepth 100000 in
set_option maxHeartbeats 2000000 in
theorem rh_1 (k y m d v n : Int)  (c0 : (y == 0) = false) (w : World) :
    Calls Tryd.prog 31 #[.agg (hoC 1 y m d v n)] w fun e w' => e = .returned (.bool false) ∧ Below w.heap.size w w' := by
  have HB := Lib.hid ((Below.refl _ w).alloc (Nat.le_refl _) (.cells (hoC 1 y m d v n) 50))
  go_enter Tryd.func31, Tryd.ntmps31
  go_wp2_with (go_at_call 32; refine (rmay_any _ _ _ _).mono ?_; rintro e w1 ⟨rfl, rfl⟩)
  go_ret
  exact ⟨rfl, HB.out⟩
set_option maxRecDepth 100000 in
set_option maxHeartbeats 2000000 in
theorem rh_2 (k y m d v n : Int) (c0 : (y == 0) = true) (c1 : (v == 0) = false) (w : World) :
    Calls Tryd.prog 31 #[.agg (hoC 1 y m d v n)] w fun e w' => e = .returned (.bool false) ∧ Below w.heap.size w w' := by
  have HB := Lib.hid ((Below.refl _ w).alloc (Nat.le_refl _) (.cells (hoC 1 y m d v n) 50))
  go_enter Tryd.func31, Tryd.ntmps31
  go_wp2_with (go_at_call 32; refine (rmay_any _ _ _ _).mono ?_; rintro e w1 ⟨rfl, rfl⟩)
  go_ret
  exact ⟨rfl, HB.out⟩
set_option maxRecDepth 100000 in
set_option maxHeartbeats 2000000 in
theorem rh_3 (k y m d v n : Int) (c0 : (y == 0) = true) (c1 : (v == 0) = true) (c2 : (n == 0) = false) (w : World) :
    Calls Tryd.prog 31 #[.agg (hoC 1 y m d v n)] w fun e w' => e = .returned (.bool false) ∧ Below w.heap.size w w' := by
  have HB := Lib.hid ((Below.refl _ w).alloc (Nat.le_refl _) (.cells (hoC 1 y m d v n) 50))
  go_enter Tryd.func31, Tryd.ntmps31
  go_wp2_with (go_at_call 32; refine (rmay_any _ _ _ _).mono ?_; rintro e w1 ⟨rfl, rfl⟩)
  go_ret
  exact ⟨rfl, HB.out⟩
set_option maxRecDepth 100000 in
set_option maxHeartbeats 2000000 in
theorem rh_4 (k y m d v n : Int) (c0 : (y == 0) = true) (c1 : (v == 0) = true) (c2 : (n == 0) = true) (w : World) :
    Calls Tryd.prog 31 #[.agg (hoC 1 y m d v n)] w fun e w' => e = .returned (.bool (decide (May 2000 m d))) ∧ Below w.heap.size w w' := by
  have HB := Lib.hid ((Below.refl _ w).alloc (Nat.le_refl _) (.cells (hoC 1 y m d v n) 50))
  go_enter Tryd.func31, Tryd.ntmps31
  go_wp2_with (go_at_call 32; refine (rmay_any _ _ _ _).mono ?_; rintro e w1 ⟨rfl, rfl⟩)
  go_ret
  exact ⟨rfl, HB.out⟩
set_option maxRecDepth 100000 in
set_option maxHeartbeats 2000000 in
theorem rh_5 (k y m d v n : Int)  (c0 : (v == 0) = false) (w : World) :
    Calls Tryd.prog 31 #[.agg (hoC 2 y m d v n)] w fun e w' => e = .returned (.bool false) ∧ Below w.heap.size w w' := by
  have HB := Lib.hid ((Below.refl _ w).alloc (Nat.le_refl _) (.cells (hoC 2 y m d v n) 50))
  go_enter Tryd.func31, Tryd.ntmps31
  go_wp2_with (go_at_call 32; refine (rmay_any _ _ _ _).mono ?_; rintro e w1 ⟨rfl, rfl⟩)
  go_ret
  exact ⟨rfl, HB.out⟩
set_option maxRecDepth 100000 in
set_option maxHeartbeats 2000000 in
theorem rh_6 (k y m d v n : Int) (c0 : (v == 0) = true) (c1 : (n == 0) = false) (w : World) :
    Calls Tryd.prog 31 #[.agg (hoC 2 y m d v n)] w fun e w' => e = .returned (.bool false) ∧ Below w.heap.size w w' := by
  have HB := Lib.hid ((Below.refl _ w).alloc (Nat.le_refl _) (.cells (hoC 2 y m d v n) 50))
  go_enter Tryd.func31, Tryd.ntmps31
  go_wp2_with (go_at_call 32; refine (rmay_any _ _ _ _).mono ?_; rintro e w1 ⟨rfl, rfl⟩)
  go_ret
  exact ⟨rfl, HB.out⟩
set_option maxRecDepth 100000 in
set_option maxHeartbeats 2000000 in
theorem rh_7 (k y m d v n : Int) (c0 : (v == 0) = true) (c1 : (n == 0) = true) (w : World) :
    Calls Tryd.prog 31 #[.agg (hoC 2 y m d v n)] w fun e w' => e = .returned (.bool (decide (May y m d))) ∧ Below w.heap.size w w' := by
  have HB := Lib.hid ((Below.refl _ w).alloc (Nat.le_refl _) (.cells (hoC 2 y m d v n) 50))
  go_enter Tryd.func31, Tryd.ntmps31
  go_wp2_with (go_at_call 32; refine (rmay_any _ _ _ _).mono ?_; rintro e w1 ⟨rfl, rfl⟩)
  go_ret
  exact ⟨rfl, HB.out⟩
set_option maxRecDepth 100000 in
set_option maxHeartbeats 2000000 in
theorem rh_8 (k y m d v n : Int)  (c0 : (y == 0) = false) (w : World) :
    Calls Tryd.prog 31 #[.agg (hoC 3 y m d v n)] w fun e w' => e = .returned (.bool false) ∧ Below w.heap.size w w' := by
  have HB := Lib.hid ((Below.refl _ w).alloc (Nat.le_refl _) (.cells (hoC 3 y m d v n) 50))
  go_enter Tryd.func31, Tryd.ntmps31
  go_wp2_with (go_at_call 32; refine (rmay_any _ _ _ _).mono ?_; rintro e w1 ⟨rfl, rfl⟩)
  go_ret
  exact ⟨rfl, HB.out⟩
set_option maxRecDepth 100000 in
set_option maxHeartbeats 2000000 in
theorem rh_9 (k y m d v n : Int) (c0 : (y == 0) = true) (c1 : (d == 0) = false) (w : World) :
    Calls Tryd.prog 31 #[.agg (hoC 3 y m d v n)] w fun e w' => e = .returned (.bool false) ∧ Below w.heap.size w w' := by
  have HB := Lib.hid ((Below.refl _ w).alloc (Nat.le_refl _) (.cells (hoC 3 y m d v n) 50))
  go_enter Tryd.func31, Tryd.ntmps31
  go_wp2_with (go_at_call 32; refine (rmay_any _ _ _ _).mono ?_; rintro e w1 ⟨rfl, rfl⟩)
  go_ret
  exact ⟨rfl, HB.out⟩
set_option maxRecDepth 100000 in
set_option maxHeartbeats 2000000 in
theorem rh_10 (k y m d v n : Int) (c0 : (y == 0) = true) (c1 : (d == 0) = true) (c2 : ¬ 1 ≤ m) (w : World) :
    Calls Tryd.prog 31 #[.agg (hoC 3 y m d v n)] w fun e w' => e = .returned (.bool false) ∧ Below w.heap.size w w' := by
  have HB := Lib.hid ((Below.refl _ w).alloc (Nat.le_refl _) (.cells (hoC 3 y m d v n) 50))
  go_enter Tryd.func31, Tryd.ntmps31
  go_wp2_with (go_at_call 32; refine (rmay_any _ _ _ _).mono ?_; rintro e w1 ⟨rfl, rfl⟩)
  go_ret
  exact ⟨rfl, HB.out⟩
set_option maxRecDepth 100000 in
set_option maxHeartbeats 2000000 in
theorem rh_11 (k y m d v n : Int) (c0 : (y == 0) = true) (c1 : (d == 0) = true) (c2 : 1 ≤ m) (c3 : ¬ m ≤ 12) (w : World) :
    Calls Tryd.prog 31 #[.agg (hoC 3 y m d v n)] w fun e w' => e = .returned (.bool false) ∧ Below w.heap.size w w' := by
  have HB := Lib.hid ((Below.refl _ w).alloc (Nat.le_refl _) (.cells (hoC 3 y m d v n) 50))
  go_enter Tryd.func31, Tryd.ntmps31
  go_wp2_with (go_at_call 32; refine (rmay_any _ _ _ _).mono ?_; rintro e w1 ⟨rfl, rfl⟩)
  go_ret
  exact ⟨rfl, HB.out⟩
set_option maxRecDepth 100000 in
set_option maxHeartbeats 2000000 in
theorem rh_12 (k y m d v n : Int) (c0 : (y == 0) = true) (c1 : (d == 0) = true) (c2 : 1 ≤ m) (c3 : m ≤ 12) (c4 : ¬ 1 ≤ v) (w : World) :
    Calls Tryd.prog 31 #[.agg (hoC 3 y m d v n)] w fun e w' => e = .returned (.bool false) ∧ Below w.heap.size w w' := by
  have HB := Lib.hid ((Below.refl _ w).alloc (Nat.le_refl _) (.cells (hoC 3 y m d v n) 50))
  go_enter Tryd.func31, Tryd.ntmps31
  go_wp2_with (go_at_call 32; refine (rmay_any _ _ _ _).mono ?_; rintro e w1 ⟨rfl, rfl⟩)
  go_ret
  exact ⟨rfl, HB.out⟩
set_option maxRecDepth 100000 in
set_option maxHeartbeats 2000000 in
theorem rh_13 (k y m d v n : Int) (c0 : (y == 0) = true) (c1 : (d == 0) = true) (c2 : 1 ≤ m) (c3 : m ≤ 12) (c4 : 1 ≤ v) (c5 : ¬ v ≤ 7) (w : World) :
    Calls Tryd.prog 31 #[.agg (hoC 3 y m d v n)] w fun e w' => e = .returned (.bool false) ∧ Below w.heap.size w w' := by
  have HB := Lib.hid ((Below.refl _ w).alloc (Nat.le_refl _) (.cells (hoC 3 y m d v n) 50))
  go_enter Tryd.func31, Tryd.ntmps31
  go_wp2_with (go_at_call 32; refine (rmay_any _ _ _ _).mono ?_; rintro e w1 ⟨rfl, rfl⟩)
  go_ret
  exact ⟨rfl, HB.out⟩
set_option maxRecDepth 100000 in
set_option maxHeartbeats 2000000 in
theorem rh_14 (k y m d v n : Int) (c0 : (y == 0) = true) (c1 : (d == 0) = true) (c2 : 1 ≤ m) (c3 : m ≤ 12) (c4 : 1 ≤ v) (c5 : v ≤ 7) (c6 : (n == -1) = true) (w : World) :
    Calls Tryd.prog 31 #[.agg (hoC 3 y m d v n)] w fun e w' => e = .returned (.bool true) ∧ Below w.heap.size w w' := by
  have HB := Lib.hid ((Below.refl _ w).alloc (Nat.le_refl _) (.cells (hoC 3 y m d v n) 50))
  go_enter Tryd.func31, Tryd.ntmps31
  go_wp2_with (go_at_call 32; refine (rmay_any _ _ _ _).mono ?_; rintro e w1 ⟨rfl, rfl⟩)
  go_ret
  exact ⟨rfl, HB.out⟩
set_option maxRecDepth 100000 in
set_option maxHeartbeats 2000000 in
theorem rh_15 (k y m d v n : Int) (c0 : (y == 0) = true) (c1 : (d == 0) = true) (c2 : 1 ≤ m) (c3 : m ≤ 12) (c4 : 1 ≤ v) (c5 : v ≤ 7) (c6 : (n == -1) = false) (c7 : ¬ 1 ≤ n) (w : World) :
    Calls Tryd.prog 31 #[.agg (hoC 3 y m d v n)] w fun e w' => e = .returned (.bool false) ∧ Below w.heap.size w w' := by
  have HB := Lib.hid ((Below.refl _ w).alloc (Nat.le_refl _) (.cells (hoC 3 y m d v n) 50))
  go_enter Tryd.func31, Tryd.ntmps31
  go_wp2_with (go_at_call 32; refine (rmay_any _ _ _ _).mono ?_; rintro e w1 ⟨rfl, rfl⟩)
  go_ret
  exact ⟨rfl, HB.out⟩
set_option maxRecDepth 100000 in
set_option maxHeartbeats 2000000 in
theorem rh_16 (k y m d v n : Int) (c0 : (y == 0) = true) (c1 : (d == 0) = true) (c2 : 1 ≤ m) (c3 : m ≤ 12) (c4 : 1 ≤ v) (c5 : v ≤ 7) (c6 : (n == -1) = false) (c7 : 1 ≤ n) (c8 : n ≤ 5) (w : World) :
    Calls Tryd.prog 31 #[.agg (hoC 3 y m d v n)] w fun e w' => e = .returned (.bool true) ∧ Below w.heap.size w w' := by
  have HB := Lib.hid ((Below.refl _ w).alloc (Nat.le_refl _) (.cells (hoC 3 y m d v n) 50))
  go_enter Tryd.func31, Tryd.ntmps31
  go_wp2_with (go_at_call 32; refine (rmay_any _ _ _ _).mono ?_; rintro e w1 ⟨rfl, rfl⟩)
  go_ret
  exact ⟨rfl, HB.out⟩
set_option maxRecDepth 100000 in
set_option maxHeartbeats 2000000 in
theorem rh_17 (k y m d v n : Int) (c0 : (y == 0) = true) (c1 : (d == 0) = true) (c2 : 1 ≤ m) (c3 : m ≤ 12) (c4 : 1 ≤ v) (c5 : v ≤ 7) (c6 : (n == -1) = false) (c7 : 1 ≤ n) (c8 : ¬ n ≤ 5) (w : World) :
    Calls Tryd.prog 31 #[.agg (hoC 3 y m d v n)] w fun e w' => e = .returned (.bool false) ∧ Below w.heap.size w w' := by
  have HB := Lib.hid ((Below.refl _ w).alloc (Nat.le_refl _) (.cells (hoC 3 y m d v n) 50))
  go_enter Tryd.func31, Tryd.ntmps31
  go_wp2_with (go_at_call 32; refine (rmay_any _ _ _ _).mono ?_; rintro e w1 ⟨rfl, rfl⟩)
  go_ret
  exact ⟨rfl, HB.out⟩
set_option maxRecDepth 100000 in
set_option maxHeartbeats 2000000 in
theorem rh_18 (k y m d v n : Int)  (c0 : (y == 0) = false) (w : World) :
    Calls Tryd.prog 31 #[.agg (hoC 4 y m d v n)] w fun e w' => e = .returned (.bool false) ∧ Below w.heap.size w w' := by
  have HB := Lib.hid ((Below.refl _ w).alloc (Nat.le_refl _) (.cells (hoC 4 y m d v n) 50))
  go_enter Tryd.func31, Tryd.ntmps31
  go_wp2_with (go_at_call 32; refine (rmay_any _ _ _ _).mono ?_; rintro e w1 ⟨rfl, rfl⟩)
  go_ret
  exact ⟨rfl, HB.out⟩
set_option maxRecDepth 100000 in
set_option maxHeartbeats 2000000 in
theorem rh_19 (k y m d v n : Int) (c0 : (y == 0) = true) (c1 : (m == 0) = false) (w : World) :
    Calls Tryd.prog 31 #[.agg (hoC 4 y m d v n)] w fun e w' => e = .returned (.bool false) ∧ Below w.heap.size w w' := by
  have HB := Lib.hid ((Below.refl _ w).alloc (Nat.le_refl _) (.cells (hoC 4 y m d v n) 50))
  go_enter Tryd.func31, Tryd.ntmps31
  go_wp2_with (go_at_call 32; refine (rmay_any _ _ _ _).mono ?_; rintro e w1 ⟨rfl, rfl⟩)
  go_ret
  exact ⟨rfl, HB.out⟩
set_option maxRecDepth 100000 in
set_option maxHeartbeats 2000000 in
theorem rh_20 (k y m d v n : Int) (c0 : (y == 0) = true) (c1 : (m == 0) = true) (c2 : (d == 0) = false) (w : World) :
    Calls Tryd.prog 31 #[.agg (hoC 4 y m d v n)] w fun e w' => e = .returned (.bool false) ∧ Below w.heap.size w w' := by
  have HB := Lib.hid ((Below.refl _ w).alloc (Nat.le_refl _) (.cells (hoC 4 y m d v n) 50))
  go_enter Tryd.func31, Tryd.ntmps31
  go_wp2_with (go_at_call 32; refine (rmay_any _ _ _ _).mono ?_; rintro e w1 ⟨rfl, rfl⟩)
  go_ret
  exact ⟨rfl, HB.out⟩
set_option maxRecDepth 100000 in
set_option maxHeartbeats 2000000 in
theorem rh_21 (k y m d v n : Int) (c0 : (y == 0) = true) (c1 : (m == 0) = true) (c2 : (d == 0) = true) (c3 : (v == 0) = false) (w : World) :
    Calls Tryd.prog 31 #[.agg (hoC 4 y m d v n)] w fun e w' => e = .returned (.bool false) ∧ Below w.heap.size w w' := by
  have HB := Lib.hid ((Below.refl _ w).alloc (Nat.le_refl _) (.cells (hoC 4 y m d v n) 50))
  go_enter Tryd.func31, Tryd.ntmps31
  go_wp2_with (go_at_call 32; refine (rmay_any _ _ _ _).mono ?_; rintro e w1 ⟨rfl, rfl⟩)
  go_ret
  exact ⟨rfl, HB.out⟩
set_option maxRecDepth 100000 in
set_option maxHeartbeats 2000000 in
theorem rh_22 (k y m d v n : Int) (c0 : (y == 0) = true) (c1 : (m == 0) = true) (c2 : (d == 0) = true) (c3 : (v == 0) = true) (c4 : ¬ -100 ≤ n) (w : World) :
    Calls Tryd.prog 31 #[.agg (hoC 4 y m d v n)] w fun e w' => e = .returned (.bool false) ∧ Below w.heap.size w w' := by
  have HB := Lib.hid ((Below.refl _ w).alloc (Nat.le_refl _) (.cells (hoC 4 y m d v n) 50))
  go_enter Tryd.func31, Tryd.ntmps31
  go_wp2_with (go_at_call 32; refine (rmay_any _ _ _ _).mono ?_; rintro e w1 ⟨rfl, rfl⟩)
  go_ret
  exact ⟨rfl, HB.out⟩
set_option maxRecDepth 100000 in
set_option maxHeartbeats 2000000 in
theorem rh_23 (k y m d v n : Int) (c0 : (y == 0) = true) (c1 : (m == 0) = true) (c2 : (d == 0) = true) (c3 : (v == 0) = true) (c4 : -100 ≤ n) (c5 : ¬ n ≤ 200) (w : World) :
    Calls Tryd.prog 31 #[.agg (hoC 4 y m d v n)] w fun e w' => e = .returned (.bool false) ∧ Below w.heap.size w w' := by
  have HB := Lib.hid ((Below.refl _ w).alloc (Nat.le_refl _) (.cells (hoC 4 y m d v n) 50))
  go_enter Tryd.func31, Tryd.ntmps31
  go_wp2_with (go_at_call 32; refine (rmay_any _ _ _ _).mono ?_; rintro e w1 ⟨rfl, rfl⟩)
  go_ret
  exact ⟨rfl, HB.out⟩
set_option maxRecDepth 100000 in
set_option maxHeartbeats 2000000 in
theorem rh_24 (k y m d v n : Int) (c0 : (y == 0) = true) (c1 : (m == 0) = true) (c2 : (d == 0) = true) (c3 : (v == 0) = true) (c4 : -100 ≤ n) (c5 : n ≤ 200) (w : World) :
    Calls Tryd.prog 31 #[.agg (hoC 4 y m d v n)] w fun e w' => e = .returned (.bool true) ∧ Below w.heap.size w w' := by
  have HB := Lib.hid ((Below.refl _ w).alloc (Nat.le_refl _) (.cells (hoC 4 y m d v n) 50))
  go_enter Tryd.func31, Tryd.ntmps31
  go_wp2_with (go_at_call 32; refine (rmay_any _ _ _ _).mono ?_; rintro e w1 ⟨rfl, rfl⟩)
  go_ret
  exact ⟨rfl, HB.out⟩
set_option maxRecDepth 100000 in
set_option maxHeartbeats 2000000 in
theorem rh_25 (k y m d v n : Int) (h1 : k ≠ 1) (h2 : k ≠ 2) (h3 : k ≠ 3) (h4 : k ≠ 4) (w : World) :
    Calls Tryd.prog 31 #[.agg (hoC k y m d v n)] w fun e w' => e = .returned (.bool false) ∧ Below w.heap.size w w' := by
  have HB := Lib.hid ((Below.refl _ w).alloc (Nat.le_refl _) (.cells (hoC k y m d v n) 50))
  go_enter Tryd.func31, Tryd.ntmps31
  go_wp2_with (go_at_call 32; refine (rmay_any _ _ _ _).mono ?_; rintro e w1 ⟨rfl, rfl⟩)
  go_ret
  exact ⟨rfl, HB.out⟩
theorem rholiday_any (h : Ho) (w : World) :
    Calls Tryd.prog 31 #[hoV h] w fun e w' => e = .returned (.bool (decide (HoIs h))) ∧ Below w.heap.size w w' := by
  obtain ⟨k, y, m, d, v, n⟩ := h
  by_cases h1 : k = 1
  · subst h1
    by_cases q0 : y = 0
    case neg =>
      rw [show decide (HoIs ⟨1, y, m, d, v, n⟩) = false from decide_eq_false (fun h => q0 (by rcases h with ⟨e, h⟩ | ⟨e, h⟩ | ⟨e, h⟩ | ⟨e, h⟩ <;> simp at e <;> simp at h <;> first | omega | exact h.1))]
      exact rh_1 0 y m d v n (by simp [q0]) w
    by_cases q1 : v = 0
    case neg =>
      rw [show decide (HoIs ⟨1, y, m, d, v, n⟩) = false from decide_eq_false (fun h => q1 (by rcases h with ⟨e, h⟩ | ⟨e, h⟩ | ⟨e, h⟩ | ⟨e, h⟩ <;> simp at e <;> simp at h <;> first | omega | exact h.1))]
      exact rh_2 0 y m d v n (by simp [q0]) (by simp [q1]) w
    by_cases q2 : n = 0
    case neg =>
      rw [show decide (HoIs ⟨1, y, m, d, v, n⟩) = false from decide_eq_false (fun h => q2 (by rcases h with ⟨e, h⟩ | ⟨e, h⟩ | ⟨e, h⟩ | ⟨e, h⟩ <;> simp at e <;> simp at h <;> first | omega | exact h.1))]
      exact rh_3 0 y m d v n (by simp [q0]) (by simp [q1]) (by simp [q2]) w
    rw [show decide (HoIs ⟨1, y, m, d, v, n⟩) = decide (May 2000 m d) from by
      rw [Bool.eq_iff_iff, decide_eq_true_iff, decide_eq_true_iff]; simp [HoIs, q0, q1, q2]]
    exact rh_4 0 y m d v n (by simp [q0]) (by simp [q1]) (by simp [q2]) w
  by_cases h2 : k = 2
  · subst h2
    by_cases q0 : v = 0
    case neg =>
      rw [show decide (HoIs ⟨2, y, m, d, v, n⟩) = false from decide_eq_false (fun h => q0 (by rcases h with ⟨e, h⟩ | ⟨e, h⟩ | ⟨e, h⟩ | ⟨e, h⟩ <;> simp at e <;> simp at h <;> first | omega | exact h.1))]
      exact rh_5 0 y m d v n (by simp [q0]) w
    by_cases q1 : n = 0
    case neg =>
      rw [show decide (HoIs ⟨2, y, m, d, v, n⟩) = false from decide_eq_false (fun h => q1 (by rcases h with ⟨e, h⟩ | ⟨e, h⟩ | ⟨e, h⟩ | ⟨e, h⟩ <;> simp at e <;> simp at h <;> first | omega | exact h.1))]
      exact rh_6 0 y m d v n (by simp [q0]) (by simp [q1]) w
    rw [show decide (HoIs ⟨2, y, m, d, v, n⟩) = decide (May y m d) from by
      rw [Bool.eq_iff_iff, decide_eq_true_iff, decide_eq_true_iff]; simp [HoIs, q0, q1]]
    exact rh_7 0 y m d v n (by simp [q0]) (by simp [q1]) w
  by_cases h3 : k = 3
  · subst h3
    by_cases q0 : y = 0
    case neg =>
      rw [show decide (HoIs ⟨3, y, m, d, v, n⟩) = false from decide_eq_false (fun h => q0 (by rcases h with ⟨e, h⟩ | ⟨e, h⟩ | ⟨e, h⟩ | ⟨e, h⟩ <;> simp at e <;> simp at h <;> first | omega | exact h.1))]
      exact rh_8 0 y m d v n (by simp [q0]) w
    by_cases q1 : d = 0
    case neg =>
      rw [show decide (HoIs ⟨3, y, m, d, v, n⟩) = false from decide_eq_false (fun h => q1 (by rcases h with ⟨e, h⟩ | ⟨e, h⟩ | ⟨e, h⟩ | ⟨e, h⟩ <;> simp at e <;> simp at h <;> first | omega | exact h.1))]
      exact rh_9 0 y m d v n (by simp [q0]) (by simp [q1]) w
    by_cases q2 : 1 ≤ m
    case neg =>
      rw [show decide (HoIs ⟨3, y, m, d, v, n⟩) = false from decide_eq_false (fun h => q2 (by rcases h with ⟨e, h⟩ | ⟨e, h⟩ | ⟨e, h⟩ | ⟨e, h⟩ <;> simp at e <;> simp at h <;> first | omega | exact h.1))]
      exact rh_10 0 y m d v n (by simp [q0]) (by simp [q1]) q2 w
    by_cases q3 : m ≤ 12
    case neg =>
      rw [show decide (HoIs ⟨3, y, m, d, v, n⟩) = false from decide_eq_false (fun h => q3 (by rcases h with ⟨e, h⟩ | ⟨e, h⟩ | ⟨e, h⟩ | ⟨e, h⟩ <;> simp at e <;> simp at h <;> first | omega | exact h.1))]
      exact rh_11 0 y m d v n (by simp [q0]) (by simp [q1]) q2 q3 w
    by_cases q4 : 1 ≤ v
    case neg =>
      rw [show decide (HoIs ⟨3, y, m, d, v, n⟩) = false from decide_eq_false (fun h => q4 (by rcases h with ⟨e, h⟩ | ⟨e, h⟩ | ⟨e, h⟩ | ⟨e, h⟩ <;> simp at e <;> simp at h <;> first | omega | exact h.1))]
      exact rh_12 0 y m d v n (by simp [q0]) (by simp [q1]) q2 q3 q4 w
    by_cases q5 : v ≤ 7
    case neg =>
      rw [show decide (HoIs ⟨3, y, m, d, v, n⟩) = false from decide_eq_false (fun h => q5 (by rcases h with ⟨e, h⟩ | ⟨e, h⟩ | ⟨e, h⟩ | ⟨e, h⟩ <;> simp at e <;> simp at h <;> first | omega | exact h.1))]
      exact rh_13 0 y m d v n (by simp [q0]) (by simp [q1]) q2 q3 q4 q5 w
    by_cases q6 : n = -1
    · rw [show decide (HoIs ⟨3, y, m, d, v, n⟩) = true from decide_eq_true (.inr (.inr (.inl ⟨rfl, q0, q1, ⟨q2, q3⟩, ⟨q4, q5⟩, .inl q6⟩)))]
      exact rh_14 0 y m d v n (by simp [q0]) (by simp [q1]) q2 q3 q4 q5 (by simp [q6]) w
    · by_cases q7 : 1 ≤ n
      · by_cases q8 : n ≤ 5
        · rw [show decide (HoIs ⟨3, y, m, d, v, n⟩) = true from decide_eq_true (.inr (.inr (.inl ⟨rfl, q0, q1, ⟨q2, q3⟩, ⟨q4, q5⟩, .inr ⟨q7, q8⟩⟩)))]
          exact rh_16 0 y m d v n (by simp [q0]) (by simp [q1]) q2 q3 q4 q5 (by simp [q6]) q7 q8 w
        · rw [show decide (HoIs ⟨3, y, m, d, v, n⟩) = false from decide_eq_false (fun h => by rcases h with ⟨e, h⟩ | ⟨e, h⟩ | ⟨e, h⟩ | ⟨e, h⟩ <;> simp at e <;> simp at h <;> omega)]
          exact rh_17 0 y m d v n (by simp [q0]) (by simp [q1]) q2 q3 q4 q5 (by simp [q6]) q7 q8 w
      · rw [show decide (HoIs ⟨3, y, m, d, v, n⟩) = false from decide_eq_false (fun h => by rcases h with ⟨e, h⟩ | ⟨e, h⟩ | ⟨e, h⟩ | ⟨e, h⟩ <;> simp at e <;> simp at h <;> omega)]
        exact rh_15 0 y m d v n (by simp [q0]) (by simp [q1]) q2 q3 q4 q5 (by simp [q6]) q7 w
  by_cases h4 : k = 4
  · subst h4
    by_cases q0 : y = 0
    case neg =>
      rw [show decide (HoIs ⟨4, y, m, d, v, n⟩) = false from decide_eq_false (fun h => q0 (by rcases h with ⟨e, h⟩ | ⟨e, h⟩ | ⟨e, h⟩ | ⟨e, h⟩ <;> simp at e <;> simp at h <;> first | omega | exact h.1))]
      exact rh_18 0 y m d v n (by simp [q0]) w
    by_cases q1 : m = 0
    case neg =>
      rw [show decide (HoIs ⟨4, y, m, d, v, n⟩) = false from decide_eq_false (fun h => q1 (by rcases h with ⟨e, h⟩ | ⟨e, h⟩ | ⟨e, h⟩ | ⟨e, h⟩ <;> simp at e <;> simp at h <;> first | omega | exact h.1))]
      exact rh_19 0 y m d v n (by simp [q0]) (by simp [q1]) w
    by_cases q2 : d = 0
    case neg =>
      rw [show decide (HoIs ⟨4, y, m, d, v, n⟩) = false from decide_eq_false (fun h => q2 (by rcases h with ⟨e, h⟩ | ⟨e, h⟩ | ⟨e, h⟩ | ⟨e, h⟩ <;> simp at e <;> simp at h <;> first | omega | exact h.1))]
      exact rh_20 0 y m d v n (by simp [q0]) (by simp [q1]) (by simp [q2]) w
    by_cases q3 : v = 0
    case neg =>
      rw [show decide (HoIs ⟨4, y, m, d, v, n⟩) = false from decide_eq_false (fun h => q3 (by rcases h with ⟨e, h⟩ | ⟨e, h⟩ | ⟨e, h⟩ | ⟨e, h⟩ <;> simp at e <;> simp at h <;> first | omega | exact h.1))]
      exact rh_21 0 y m d v n (by simp [q0]) (by simp [q1]) (by simp [q2]) (by simp [q3]) w
    by_cases q4 : -100 ≤ n
    case neg =>
      rw [show decide (HoIs ⟨4, y, m, d, v, n⟩) = false from decide_eq_false (fun h => q4 (by rcases h with ⟨e, h⟩ | ⟨e, h⟩ | ⟨e, h⟩ | ⟨e, h⟩ <;> simp at e <;> simp at h <;> first | omega | exact h.1))]
      exact rh_22 0 y m d v n (by simp [q0]) (by simp [q1]) (by simp [q2]) (by simp [q3]) q4 w
    by_cases q5 : n ≤ 200
    case neg =>
      rw [show decide (HoIs ⟨4, y, m, d, v, n⟩) = false from decide_eq_false (fun h => q5 (by rcases h with ⟨e, h⟩ | ⟨e, h⟩ | ⟨e, h⟩ | ⟨e, h⟩ <;> simp at e <;> simp at h <;> first | omega | exact h.1))]
      exact rh_23 0 y m d v n (by simp [q0]) (by simp [q1]) (by simp [q2]) (by simp [q3]) q4 q5 w
    rw [show decide (HoIs ⟨4, y, m, d, v, n⟩) = true from decide_eq_true (.inr (.inr (.inr ⟨rfl, q0, q1, q2, q3, q4, q5⟩)))]
    exact rh_24 0 y m d v n (by simp [q0]) (by simp [q1]) (by simp [q2]) (by simp [q3]) q4 q5 w
  rw [show decide (HoIs ⟨k, y, m, d, v, n⟩) = false from decide_eq_false (by rintro (⟨h, _⟩ | ⟨h, _⟩ | ⟨h, _⟩ | ⟨h, _⟩) <;> first | exact h1 h | exact h2 h | exact h3 h | exact h4 h)]
  exact rh_25 k y m d v n h1 h2 h3 h4 w
end Go.Proofs.YtgedcfgmfhlkdaaDoor
