/- Joined: HRef1 HRef2. -/
import Derived.Test.YtbffmobjiiicoaaGreatDoorJH4
section
/- Contracts of the document's small functions: Day, Easter, behind, holiday. -/
set_option linter.unusedVariables false
set_option linter.unusedSimpArgs false
namespace Go.Proofs.YtbffmobjiiicoaaGreatDoor.H8
open Go.RowKit Go.Shelf
set_option maxRecDepth 100000 in
set_option maxHeartbeats 2000000 in
theorem rEaster_any (y : Int) (h0 : 1970 ≤ y) (h1 : y ≤ 9999) (w : World) :
    Calls Tryz.prog 107 #[.int .i64 y] w fun e w' => e = .returned (.tuple #[.int .i64 (eaM y), .int .i64 (eaD y)]) ∧ w = w' := by
  have e4 : y % 100 % 4 = y % 4 := by omega
  simp only [eaM, eaD, eaN, eaL, eaH, e4]
  clear e4
  go_enter Tryz.func107, Tryz.ntmps107
  go_wp2
  go_ret2
  exact ⟨rfl, rfl⟩
theorem rbehind_any (x y : Int) (h0 : 1970 ≤ y) (h1 : y ≤ 9999) (hx0 : 0 ≤ x) (hx1 : x ≤ 2932896) (w : World) :
    Calls Tryz.prog 101 #[.int .i64 x, .int .i64 y] w fun e w' => e = .returned (.int .i64 (x - eaDay y)) ∧ w = w' := by
  have HE := Lib.hid (rEaster_any y h0 h1)
  have hm := ea_may h0 h1
  have hdb := day_bounds hm
  have hd : ∀ W, Calls Tryz.prog 100 #[.int .i64 y, .int .i64 (eaM y), .int .i64 (eaD y)] W fun e w' => e = .returned (.tuple #[.int .i64 (eaDay y), .int .i64 0]) ∧ W = w' := fun W => by
    have := rday_any y (eaM y) (eaD y) W
    rw [mayE_yes hm, show dayE y (eaM y) (eaD y) = eaDay y by unfold dayE eaDay; rw [if_pos hm]] at this
    exact this
  obtain ⟨N, hN⟩ : ∃ N, N = eaDay y := ⟨_, rfl⟩
  obtain ⟨em, hem⟩ : ∃ N, N = eaM y := ⟨_, rfl⟩
  obtain ⟨ed, hed⟩ : ∃ N, N = eaD y := ⟨_, rfl⟩
  have hdb2 : 0 ≤ N ∧ N ≤ 2932896 := by rw [hN]; exact hdb
  rw [← hN, ← hem, ← hed] at hd
  rw [← hem, ← hed] at HE
  rw [← hN]
  have HD := Lib.hid hd
  clear hd hdb hm hN hem hed
  obtain ⟨n1, n2⟩ := hdb2
  go_enter Tryz.func101, Tryz.ntmps101
  go_wp2_with (first
    | (go_at_call 107; refine (HE.out _).mono ?_; rintro e w1 ⟨rfl, rfl⟩)
    | (go_at_call 100; refine (HD.out _).mono ?_; rintro e w2 ⟨rfl, rfl⟩))
  go_ret
  exact ⟨rfl, rfl⟩
set_option maxRecDepth 100000 in
set_option maxHeartbeats 2000000 in
theorem rh_1 (k y m d v n : Int)  (c0 : (y == 0) = false) (w : World) :
    Calls Tryz.prog 48 #[.agg (hoC 1 y m d v n)] w fun e w' => e = .returned (.bool false) ∧ Below w.heap.size w w' := by
  have HB := Lib.hid ((Below.refl _ w).alloc (Nat.le_refl _) (.cells (hoC 1 y m d v n) 91))
  go_enter Tryz.func48, Tryz.ntmps48
  go_wp2_with (go_at_call 49; refine (rmay_any _ _ _ _).mono ?_; rintro e w1 ⟨rfl, rfl⟩)
  go_ret
  exact ⟨rfl, HB.out⟩
set_option maxRecDepth 100000 in
set_option maxHeartbeats 2000000 in
theorem rh_2 (k y m d v n : Int) (c0 : (y == 0) = true) (c1 : (v == 0) = false) (w : World) :
    Calls Tryz.prog 48 #[.agg (hoC 1 y m d v n)] w fun e w' => e = .returned (.bool false) ∧ Below w.heap.size w w' := by
  have HB := Lib.hid ((Below.refl _ w).alloc (Nat.le_refl _) (.cells (hoC 1 y m d v n) 91))
  go_enter Tryz.func48, Tryz.ntmps48
  go_wp2_with (go_at_call 49; refine (rmay_any _ _ _ _).mono ?_; rintro e w1 ⟨rfl, rfl⟩)
  go_ret
  exact ⟨rfl, HB.out⟩
set_option maxRecDepth 100000 in
set_option maxHeartbeats 2000000 in
theorem rh_3 (k y m d v n : Int) (c0 : (y == 0) = true) (c1 : (v == 0) = true) (c2 : (n == 0) = false) (w : World) :
    Calls Tryz.prog 48 #[.agg (hoC 1 y m d v n)] w fun e w' => e = .returned (.bool false) ∧ Below w.heap.size w w' := by
  have HB := Lib.hid ((Below.refl _ w).alloc (Nat.le_refl _) (.cells (hoC 1 y m d v n) 91))
  go_enter Tryz.func48, Tryz.ntmps48
  go_wp2_with (go_at_call 49; refine (rmay_any _ _ _ _).mono ?_; rintro e w1 ⟨rfl, rfl⟩)
  go_ret
  exact ⟨rfl, HB.out⟩
set_option maxRecDepth 100000 in
set_option maxHeartbeats 2000000 in
theorem rh_4 (k y m d v n : Int) (c0 : (y == 0) = true) (c1 : (v == 0) = true) (c2 : (n == 0) = true) (w : World) :
    Calls Tryz.prog 48 #[.agg (hoC 1 y m d v n)] w fun e w' => e = .returned (.bool (decide (May 2000 m d))) ∧ Below w.heap.size w w' := by
  have HB := Lib.hid ((Below.refl _ w).alloc (Nat.le_refl _) (.cells (hoC 1 y m d v n) 91))
  go_enter Tryz.func48, Tryz.ntmps48
  go_wp2_with (go_at_call 49; refine (rmay_any _ _ _ _).mono ?_; rintro e w1 ⟨rfl, rfl⟩)
  go_ret
  exact ⟨rfl, HB.out⟩
set_option maxRecDepth 100000 in
set_option maxHeartbeats 2000000 in
theorem rh_5 (k y m d v n : Int)  (c0 : (v == 0) = false) (w : World) :
    Calls Tryz.prog 48 #[.agg (hoC 2 y m d v n)] w fun e w' => e = .returned (.bool false) ∧ Below w.heap.size w w' := by
  have HB := Lib.hid ((Below.refl _ w).alloc (Nat.le_refl _) (.cells (hoC 2 y m d v n) 91))
  go_enter Tryz.func48, Tryz.ntmps48
  go_wp2_with (go_at_call 49; refine (rmay_any _ _ _ _).mono ?_; rintro e w1 ⟨rfl, rfl⟩)
  go_ret
  exact ⟨rfl, HB.out⟩
set_option maxRecDepth 100000 in
set_option maxHeartbeats 2000000 in
theorem rh_6 (k y m d v n : Int) (c0 : (v == 0) = true) (c1 : (n == 0) = false) (w : World) :
    Calls Tryz.prog 48 #[.agg (hoC 2 y m d v n)] w fun e w' => e = .returned (.bool false) ∧ Below w.heap.size w w' := by
  have HB := Lib.hid ((Below.refl _ w).alloc (Nat.le_refl _) (.cells (hoC 2 y m d v n) 91))
  go_enter Tryz.func48, Tryz.ntmps48
  go_wp2_with (go_at_call 49; refine (rmay_any _ _ _ _).mono ?_; rintro e w1 ⟨rfl, rfl⟩)
  go_ret
  exact ⟨rfl, HB.out⟩
set_option maxRecDepth 100000 in
set_option maxHeartbeats 2000000 in
theorem rh_7 (k y m d v n : Int) (c0 : (v == 0) = true) (c1 : (n == 0) = true) (w : World) :
    Calls Tryz.prog 48 #[.agg (hoC 2 y m d v n)] w fun e w' => e = .returned (.bool (decide (May y m d))) ∧ Below w.heap.size w w' := by
  have HB := Lib.hid ((Below.refl _ w).alloc (Nat.le_refl _) (.cells (hoC 2 y m d v n) 91))
  go_enter Tryz.func48, Tryz.ntmps48
  go_wp2_with (go_at_call 49; refine (rmay_any _ _ _ _).mono ?_; rintro e w1 ⟨rfl, rfl⟩)
  go_ret
  exact ⟨rfl, HB.out⟩
set_option maxRecDepth 100000 in
set_option maxHeartbeats 2000000 in
theorem rh_8 (k y m d v n : Int)  (c0 : (y == 0) = false) (w : World) :
    Calls Tryz.prog 48 #[.agg (hoC 3 y m d v n)] w fun e w' => e = .returned (.bool false) ∧ Below w.heap.size w w' := by
  have HB := Lib.hid ((Below.refl _ w).alloc (Nat.le_refl _) (.cells (hoC 3 y m d v n) 91))
  go_enter Tryz.func48, Tryz.ntmps48
  go_wp2_with (go_at_call 49; refine (rmay_any _ _ _ _).mono ?_; rintro e w1 ⟨rfl, rfl⟩)
  go_ret
  exact ⟨rfl, HB.out⟩
set_option maxRecDepth 100000 in
set_option maxHeartbeats 2000000 in
theorem rh_9 (k y m d v n : Int) (c0 : (y == 0) = true) (c1 : (d == 0) = false) (w : World) :
    Calls Tryz.prog 48 #[.agg (hoC 3 y m d v n)] w fun e w' => e = .returned (.bool false) ∧ Below w.heap.size w w' := by
  have HB := Lib.hid ((Below.refl _ w).alloc (Nat.le_refl _) (.cells (hoC 3 y m d v n) 91))
  go_enter Tryz.func48, Tryz.ntmps48
  go_wp2_with (go_at_call 49; refine (rmay_any _ _ _ _).mono ?_; rintro e w1 ⟨rfl, rfl⟩)
  go_ret
  exact ⟨rfl, HB.out⟩
set_option maxRecDepth 100000 in
set_option maxHeartbeats 2000000 in
theorem rh_10 (k y m d v n : Int) (c0 : (y == 0) = true) (c1 : (d == 0) = true) (c2 : ¬ 1 ≤ m) (w : World) :
    Calls Tryz.prog 48 #[.agg (hoC 3 y m d v n)] w fun e w' => e = .returned (.bool false) ∧ Below w.heap.size w w' := by
  have HB := Lib.hid ((Below.refl _ w).alloc (Nat.le_refl _) (.cells (hoC 3 y m d v n) 91))
  go_enter Tryz.func48, Tryz.ntmps48
  go_wp2_with (go_at_call 49; refine (rmay_any _ _ _ _).mono ?_; rintro e w1 ⟨rfl, rfl⟩)
  go_ret
  exact ⟨rfl, HB.out⟩
set_option maxRecDepth 100000 in
set_option maxHeartbeats 2000000 in
theorem rh_11 (k y m d v n : Int) (c0 : (y == 0) = true) (c1 : (d == 0) = true) (c2 : 1 ≤ m) (c3 : ¬ m ≤ 12) (w : World) :
    Calls Tryz.prog 48 #[.agg (hoC 3 y m d v n)] w fun e w' => e = .returned (.bool false) ∧ Below w.heap.size w w' := by
  have HB := Lib.hid ((Below.refl _ w).alloc (Nat.le_refl _) (.cells (hoC 3 y m d v n) 91))
  go_enter Tryz.func48, Tryz.ntmps48
  go_wp2_with (go_at_call 49; refine (rmay_any _ _ _ _).mono ?_; rintro e w1 ⟨rfl, rfl⟩)
  go_ret
  exact ⟨rfl, HB.out⟩
set_option maxRecDepth 100000 in
set_option maxHeartbeats 2000000 in
theorem rh_12 (k y m d v n : Int) (c0 : (y == 0) = true) (c1 : (d == 0) = true) (c2 : 1 ≤ m) (c3 : m ≤ 12) (c4 : ¬ 1 ≤ v) (w : World) :
    Calls Tryz.prog 48 #[.agg (hoC 3 y m d v n)] w fun e w' => e = .returned (.bool false) ∧ Below w.heap.size w w' := by
  have HB := Lib.hid ((Below.refl _ w).alloc (Nat.le_refl _) (.cells (hoC 3 y m d v n) 91))
  go_enter Tryz.func48, Tryz.ntmps48
  go_wp2_with (go_at_call 49; refine (rmay_any _ _ _ _).mono ?_; rintro e w1 ⟨rfl, rfl⟩)
  go_ret
  exact ⟨rfl, HB.out⟩
set_option maxRecDepth 100000 in
set_option maxHeartbeats 2000000 in
theorem rh_13 (k y m d v n : Int) (c0 : (y == 0) = true) (c1 : (d == 0) = true) (c2 : 1 ≤ m) (c3 : m ≤ 12) (c4 : 1 ≤ v) (c5 : ¬ v ≤ 7) (w : World) :
    Calls Tryz.prog 48 #[.agg (hoC 3 y m d v n)] w fun e w' => e = .returned (.bool false) ∧ Below w.heap.size w w' := by
  have HB := Lib.hid ((Below.refl _ w).alloc (Nat.le_refl _) (.cells (hoC 3 y m d v n) 91))
  go_enter Tryz.func48, Tryz.ntmps48
  go_wp2_with (go_at_call 49; refine (rmay_any _ _ _ _).mono ?_; rintro e w1 ⟨rfl, rfl⟩)
  go_ret
  exact ⟨rfl, HB.out⟩
set_option maxRecDepth 100000 in
set_option maxHeartbeats 2000000 in
theorem rh_14 (k y m d v n : Int) (c0 : (y == 0) = true) (c1 : (d == 0) = true) (c2 : 1 ≤ m) (c3 : m ≤ 12) (c4 : 1 ≤ v) (c5 : v ≤ 7) (c6 : (n == -1) = true) (w : World) :
    Calls Tryz.prog 48 #[.agg (hoC 3 y m d v n)] w fun e w' => e = .returned (.bool true) ∧ Below w.heap.size w w' := by
  have HB := Lib.hid ((Below.refl _ w).alloc (Nat.le_refl _) (.cells (hoC 3 y m d v n) 91))
  go_enter Tryz.func48, Tryz.ntmps48
  go_wp2_with (go_at_call 49; refine (rmay_any _ _ _ _).mono ?_; rintro e w1 ⟨rfl, rfl⟩)
  go_ret
  exact ⟨rfl, HB.out⟩
set_option maxRecDepth 100000 in
set_option maxHeartbeats 2000000 in
theorem rh_15 (k y m d v n : Int) (c0 : (y == 0) = true) (c1 : (d == 0) = true) (c2 : 1 ≤ m) (c3 : m ≤ 12) (c4 : 1 ≤ v) (c5 : v ≤ 7) (c6 : (n == -1) = false) (c7 : ¬ 1 ≤ n) (w : World) :
    Calls Tryz.prog 48 #[.agg (hoC 3 y m d v n)] w fun e w' => e = .returned (.bool false) ∧ Below w.heap.size w w' := by
  have HB := Lib.hid ((Below.refl _ w).alloc (Nat.le_refl _) (.cells (hoC 3 y m d v n) 91))
  go_enter Tryz.func48, Tryz.ntmps48
  go_wp2_with (go_at_call 49; refine (rmay_any _ _ _ _).mono ?_; rintro e w1 ⟨rfl, rfl⟩)
  go_ret
  exact ⟨rfl, HB.out⟩
set_option maxRecDepth 100000 in
set_option maxHeartbeats 2000000 in
theorem rh_16 (k y m d v n : Int) (c0 : (y == 0) = true) (c1 : (d == 0) = true) (c2 : 1 ≤ m) (c3 : m ≤ 12) (c4 : 1 ≤ v) (c5 : v ≤ 7) (c6 : (n == -1) = false) (c7 : 1 ≤ n) (c8 : n ≤ 5) (w : World) :
    Calls Tryz.prog 48 #[.agg (hoC 3 y m d v n)] w fun e w' => e = .returned (.bool true) ∧ Below w.heap.size w w' := by
  have HB := Lib.hid ((Below.refl _ w).alloc (Nat.le_refl _) (.cells (hoC 3 y m d v n) 91))
  go_enter Tryz.func48, Tryz.ntmps48
  go_wp2_with (go_at_call 49; refine (rmay_any _ _ _ _).mono ?_; rintro e w1 ⟨rfl, rfl⟩)
  go_ret
  exact ⟨rfl, HB.out⟩
set_option maxRecDepth 100000 in
set_option maxHeartbeats 2000000 in
theorem rh_17 (k y m d v n : Int) (c0 : (y == 0) = true) (c1 : (d == 0) = true) (c2 : 1 ≤ m) (c3 : m ≤ 12) (c4 : 1 ≤ v) (c5 : v ≤ 7) (c6 : (n == -1) = false) (c7 : 1 ≤ n) (c8 : ¬ n ≤ 5) (w : World) :
    Calls Tryz.prog 48 #[.agg (hoC 3 y m d v n)] w fun e w' => e = .returned (.bool false) ∧ Below w.heap.size w w' := by
  have HB := Lib.hid ((Below.refl _ w).alloc (Nat.le_refl _) (.cells (hoC 3 y m d v n) 91))
  go_enter Tryz.func48, Tryz.ntmps48
  go_wp2_with (go_at_call 49; refine (rmay_any _ _ _ _).mono ?_; rintro e w1 ⟨rfl, rfl⟩)
  go_ret
  exact ⟨rfl, HB.out⟩
set_option maxRecDepth 100000 in
set_option maxHeartbeats 2000000 in
theorem rh_18 (k y m d v n : Int)  (c0 : (y == 0) = false) (w : World) :
    Calls Tryz.prog 48 #[.agg (hoC 4 y m d v n)] w fun e w' => e = .returned (.bool false) ∧ Below w.heap.size w w' := by
  have HB := Lib.hid ((Below.refl _ w).alloc (Nat.le_refl _) (.cells (hoC 4 y m d v n) 91))
  go_enter Tryz.func48, Tryz.ntmps48
  go_wp2_with (go_at_call 49; refine (rmay_any _ _ _ _).mono ?_; rintro e w1 ⟨rfl, rfl⟩)
  go_ret
  exact ⟨rfl, HB.out⟩
set_option maxRecDepth 100000 in
set_option maxHeartbeats 2000000 in
theorem rh_19 (k y m d v n : Int) (c0 : (y == 0) = true) (c1 : (m == 0) = false) (w : World) :
    Calls Tryz.prog 48 #[.agg (hoC 4 y m d v n)] w fun e w' => e = .returned (.bool false) ∧ Below w.heap.size w w' := by
  have HB := Lib.hid ((Below.refl _ w).alloc (Nat.le_refl _) (.cells (hoC 4 y m d v n) 91))
  go_enter Tryz.func48, Tryz.ntmps48
  go_wp2_with (go_at_call 49; refine (rmay_any _ _ _ _).mono ?_; rintro e w1 ⟨rfl, rfl⟩)
  go_ret
  exact ⟨rfl, HB.out⟩
set_option maxRecDepth 100000 in
set_option maxHeartbeats 2000000 in
theorem rh_20 (k y m d v n : Int) (c0 : (y == 0) = true) (c1 : (m == 0) = true) (c2 : (d == 0) = false) (w : World) :
    Calls Tryz.prog 48 #[.agg (hoC 4 y m d v n)] w fun e w' => e = .returned (.bool false) ∧ Below w.heap.size w w' := by
  have HB := Lib.hid ((Below.refl _ w).alloc (Nat.le_refl _) (.cells (hoC 4 y m d v n) 91))
  go_enter Tryz.func48, Tryz.ntmps48
  go_wp2_with (go_at_call 49; refine (rmay_any _ _ _ _).mono ?_; rintro e w1 ⟨rfl, rfl⟩)
  go_ret
  exact ⟨rfl, HB.out⟩
set_option maxRecDepth 100000 in
set_option maxHeartbeats 2000000 in
theorem rh_21 (k y m d v n : Int) (c0 : (y == 0) = true) (c1 : (m == 0) = true) (c2 : (d == 0) = true) (c3 : (v == 0) = false) (w : World) :
    Calls Tryz.prog 48 #[.agg (hoC 4 y m d v n)] w fun e w' => e = .returned (.bool false) ∧ Below w.heap.size w w' := by
  have HB := Lib.hid ((Below.refl _ w).alloc (Nat.le_refl _) (.cells (hoC 4 y m d v n) 91))
  go_enter Tryz.func48, Tryz.ntmps48
  go_wp2_with (go_at_call 49; refine (rmay_any _ _ _ _).mono ?_; rintro e w1 ⟨rfl, rfl⟩)
  go_ret
  exact ⟨rfl, HB.out⟩
set_option maxRecDepth 100000 in
set_option maxHeartbeats 2000000 in
theorem rh_22 (k y m d v n : Int) (c0 : (y == 0) = true) (c1 : (m == 0) = true) (c2 : (d == 0) = true) (c3 : (v == 0) = true) (c4 : ¬ -100 ≤ n) (w : World) :
    Calls Tryz.prog 48 #[.agg (hoC 4 y m d v n)] w fun e w' => e = .returned (.bool false) ∧ Below w.heap.size w w' := by
  have HB := Lib.hid ((Below.refl _ w).alloc (Nat.le_refl _) (.cells (hoC 4 y m d v n) 91))
  go_enter Tryz.func48, Tryz.ntmps48
  go_wp2_with (go_at_call 49; refine (rmay_any _ _ _ _).mono ?_; rintro e w1 ⟨rfl, rfl⟩)
  go_ret
  exact ⟨rfl, HB.out⟩
set_option maxRecDepth 100000 in
set_option maxHeartbeats 2000000 in
theorem rh_23 (k y m d v n : Int) (c0 : (y == 0) = true) (c1 : (m == 0) = true) (c2 : (d == 0) = true) (c3 : (v == 0) = true) (c4 : -100 ≤ n) (c5 : ¬ n ≤ 200) (w : World) :
    Calls Tryz.prog 48 #[.agg (hoC 4 y m d v n)] w fun e w' => e = .returned (.bool false) ∧ Below w.heap.size w w' := by
  have HB := Lib.hid ((Below.refl _ w).alloc (Nat.le_refl _) (.cells (hoC 4 y m d v n) 91))
  go_enter Tryz.func48, Tryz.ntmps48
  go_wp2_with (go_at_call 49; refine (rmay_any _ _ _ _).mono ?_; rintro e w1 ⟨rfl, rfl⟩)
  go_ret
  exact ⟨rfl, HB.out⟩
set_option maxRecDepth 100000 in
set_option maxHeartbeats 2000000 in
theorem rh_24 (k y m d v n : Int) (c0 : (y == 0) = true) (c1 : (m == 0) = true) (c2 : (d == 0) = true) (c3 : (v == 0) = true) (c4 : -100 ≤ n) (c5 : n ≤ 200) (w : World) :
    Calls Tryz.prog 48 #[.agg (hoC 4 y m d v n)] w fun e w' => e = .returned (.bool true) ∧ Below w.heap.size w w' := by
  have HB := Lib.hid ((Below.refl _ w).alloc (Nat.le_refl _) (.cells (hoC 4 y m d v n) 91))
  go_enter Tryz.func48, Tryz.ntmps48
  go_wp2_with (go_at_call 49; refine (rmay_any _ _ _ _).mono ?_; rintro e w1 ⟨rfl, rfl⟩)
  go_ret
  exact ⟨rfl, HB.out⟩
set_option maxRecDepth 100000 in
set_option maxHeartbeats 2000000 in
theorem rh_25 (k y m d v n : Int) (h1 : k ≠ 1) (h2 : k ≠ 2) (h3 : k ≠ 3) (h4 : k ≠ 4) (w : World) :
    Calls Tryz.prog 48 #[.agg (hoC k y m d v n)] w fun e w' => e = .returned (.bool false) ∧ Below w.heap.size w w' := by
  have HB := Lib.hid ((Below.refl _ w).alloc (Nat.le_refl _) (.cells (hoC k y m d v n) 91))
  go_enter Tryz.func48, Tryz.ntmps48
  go_wp2_with (go_at_call 49; refine (rmay_any _ _ _ _).mono ?_; rintro e w1 ⟨rfl, rfl⟩)
  go_ret
  exact ⟨rfl, HB.out⟩
theorem rholiday_any (h : Ho) (w : World) :
    Calls Tryz.prog 48 #[hoV h] w fun e w' => e = .returned (.bool (decide (HoIs h))) ∧ Below w.heap.size w w' := by
  obtain ⟨k, y, m, d, v, n⟩ := h
  by_cases h1 : k = 1
  · subst h1
    by_cases q0 : y = 0
    case neg =>
      rw [show decide (HoIs ⟨1, y, m, d, v, n⟩) = false from decide_eq_false (fun h => q0 (by rcases h with ⟨e, h⟩ | ⟨e, h⟩ | ⟨e, h⟩ | ⟨e, h⟩ <;> simp at e <;> simp at h <;> first | omega | exact h.1))]
      exact rh_1 0 y m d v n (by simp [q0]) w
    by_cases q1 : v = 0
    case neg =>
      rw [show decide (HoIs ⟨1, y, m, d, v, n⟩) = false from decide_eq_false (fun h => q1 (by rcases h with ⟨e, h⟩ | ⟨e, h⟩ | ⟨e, h⟩ | ⟨e, h⟩ <;> simp at e <;> simp at h <;> first | omega | exact h.1))]
      exact rh_2 0 y m d v n (by simp [q0]) (by simp [q1]) w
    by_cases q2 : n = 0
    case neg =>
      rw [show decide (HoIs ⟨1, y, m, d, v, n⟩) = false from decide_eq_false (fun h => q2 (by rcases h with ⟨e, h⟩ | ⟨e, h⟩ | ⟨e, h⟩ | ⟨e, h⟩ <;> simp at e <;> simp at h <;> first | omega | exact h.1))]
      exact rh_3 0 y m d v n (by simp [q0]) (by simp [q1]) (by simp [q2]) w
    rw [show decide (HoIs ⟨1, y, m, d, v, n⟩) = decide (May 2000 m d) from by
      rw [Bool.eq_iff_iff, decide_eq_true_iff, decide_eq_true_iff]; simp [HoIs, q0, q1, q2]]
    exact rh_4 0 y m d v n (by simp [q0]) (by simp [q1]) (by simp [q2]) w
  by_cases h2 : k = 2
  · subst h2
    by_cases q0 : v = 0
    case neg =>
      rw [show decide (HoIs ⟨2, y, m, d, v, n⟩) = false from decide_eq_false (fun h => q0 (by rcases h with ⟨e, h⟩ | ⟨e, h⟩ | ⟨e, h⟩ | ⟨e, h⟩ <;> simp at e <;> simp at h <;> first | omega | exact h.1))]
      exact rh_5 0 y m d v n (by simp [q0]) w
    by_cases q1 : n = 0
    case neg =>
      rw [show decide (HoIs ⟨2, y, m, d, v, n⟩) = false from decide_eq_false (fun h => q1 (by rcases h with ⟨e, h⟩ | ⟨e, h⟩ | ⟨e, h⟩ | ⟨e, h⟩ <;> simp at e <;> simp at h <;> first | omega | exact h.1))]
      exact rh_6 0 y m d v n (by simp [q0]) (by simp [q1]) w
    rw [show decide (HoIs ⟨2, y, m, d, v, n⟩) = decide (May y m d) from by
      rw [Bool.eq_iff_iff, decide_eq_true_iff, decide_eq_true_iff]; simp [HoIs, q0, q1]]
    exact rh_7 0 y m d v n (by simp [q0]) (by simp [q1]) w
  by_cases h3 : k = 3
  · subst h3
    by_cases q0 : y = 0
    case neg =>
      rw [show decide (HoIs ⟨3, y, m, d, v, n⟩) = false from decide_eq_false (fun h => q0 (by rcases h with ⟨e, h⟩ | ⟨e, h⟩ | ⟨e, h⟩ | ⟨e, h⟩ <;> simp at e <;> simp at h <;> first | omega | exact h.1))]
      exact rh_8 0 y m d v n (by simp [q0]) w
    by_cases q1 : d = 0
    case neg =>
      rw [show decide (HoIs ⟨3, y, m, d, v, n⟩) = false from decide_eq_false (fun h => q1 (by rcases h with ⟨e, h⟩ | ⟨e, h⟩ | ⟨e, h⟩ | ⟨e, h⟩ <;> simp at e <;> simp at h <;> first | omega | exact h.1))]
      exact rh_9 0 y m d v n (by simp [q0]) (by simp [q1]) w
    by_cases q2 : 1 ≤ m
    case neg =>
      rw [show decide (HoIs ⟨3, y, m, d, v, n⟩) = false from decide_eq_false (fun h => q2 (by rcases h with ⟨e, h⟩ | ⟨e, h⟩ | ⟨e, h⟩ | ⟨e, h⟩ <;> simp at e <;> simp at h <;> first | omega | exact h.1))]
      exact rh_10 0 y m d v n (by simp [q0]) (by simp [q1]) q2 w
    by_cases q3 : m ≤ 12
    case neg =>
      rw [show decide (HoIs ⟨3, y, m, d, v, n⟩) = false from decide_eq_false (fun h => q3 (by rcases h with ⟨e, h⟩ | ⟨e, h⟩ | ⟨e, h⟩ | ⟨e, h⟩ <;> simp at e <;> simp at h <;> first | omega | exact h.1))]
      exact rh_11 0 y m d v n (by simp [q0]) (by simp [q1]) q2 q3 w
    by_cases q4 : 1 ≤ v
    case neg =>
      rw [show decide (HoIs ⟨3, y, m, d, v, n⟩) = false from decide_eq_false (fun h => q4 (by rcases h with ⟨e, h⟩ | ⟨e, h⟩ | ⟨e, h⟩ | ⟨e, h⟩ <;> simp at e <;> simp at h <;> first | omega | exact h.1))]
      exact rh_12 0 y m d v n (by simp [q0]) (by simp [q1]) q2 q3 q4 w
    by_cases q5 : v ≤ 7
    case neg =>
      rw [show decide (HoIs ⟨3, y, m, d, v, n⟩) = false from decide_eq_false (fun h => q5 (by rcases h with ⟨e, h⟩ | ⟨e, h⟩ | ⟨e, h⟩ | ⟨e, h⟩ <;> simp at e <;> simp at h <;> first | omega | exact h.1))]
      exact rh_13 0 y m d v n (by simp [q0]) (by simp [q1]) q2 q3 q4 q5 w
    by_cases q6 : n = -1
    · rw [show decide (HoIs ⟨3, y, m, d, v, n⟩) = true from decide_eq_true (.inr (.inr (.inl ⟨rfl, q0, q1, ⟨q2, q3⟩, ⟨q4, q5⟩, .inl q6⟩)))]
      exact rh_14 0 y m d v n (by simp [q0]) (by simp [q1]) q2 q3 q4 q5 (by simp [q6]) w
    · by_cases q7 : 1 ≤ n
      · by_cases q8 : n ≤ 5
        · rw [show decide (HoIs ⟨3, y, m, d, v, n⟩) = true from decide_eq_true (.inr (.inr (.inl ⟨rfl, q0, q1, ⟨q2, q3⟩, ⟨q4, q5⟩, .inr ⟨q7, q8⟩⟩)))]
          exact rh_16 0 y m d v n (by simp [q0]) (by simp [q1]) q2 q3 q4 q5 (by simp [q6]) q7 q8 w
        · rw [show decide (HoIs ⟨3, y, m, d, v, n⟩) = false from decide_eq_false (fun h => by rcases h with ⟨e, h⟩ | ⟨e, h⟩ | ⟨e, h⟩ | ⟨e, h⟩ <;> simp at e <;> simp at h <;> omega)]
          exact rh_17 0 y m d v n (by simp [q0]) (by simp [q1]) q2 q3 q4 q5 (by simp [q6]) q7 q8 w
      · rw [show decide (HoIs ⟨3, y, m, d, v, n⟩) = false from decide_eq_false (fun h => by rcases h with ⟨e, h⟩ | ⟨e, h⟩ | ⟨e, h⟩ | ⟨e, h⟩ <;> simp at e <;> simp at h <;> omega)]
        exact rh_15 0 y m d v n (by simp [q0]) (by simp [q1]) q2 q3 q4 q5 (by simp [q6]) q7 w
  by_cases h4 : k = 4
  · subst h4
    by_cases q0 : y = 0
    case neg =>
      rw [show decide (HoIs ⟨4, y, m, d, v, n⟩) = false from decide_eq_false (fun h => q0 (by rcases h with ⟨e, h⟩ | ⟨e, h⟩ | ⟨e, h⟩ | ⟨e, h⟩ <;> simp at e <;> simp at h <;> first | omega | exact h.1))]
      exact rh_18 0 y m d v n (by simp [q0]) w
    by_cases q1 : m = 0
    case neg =>
      rw [show decide (HoIs ⟨4, y, m, d, v, n⟩) = false from decide_eq_false (fun h => q1 (by rcases h with ⟨e, h⟩ | ⟨e, h⟩ | ⟨e, h⟩ | ⟨e, h⟩ <;> simp at e <;> simp at h <;> first | omega | exact h.1))]
      exact rh_19 0 y m d v n (by simp [q0]) (by simp [q1]) w
    by_cases q2 : d = 0
    case neg =>
      rw [show decide (HoIs ⟨4, y, m, d, v, n⟩) = false from decide_eq_false (fun h => q2 (by rcases h with ⟨e, h⟩ | ⟨e, h⟩ | ⟨e, h⟩ | ⟨e, h⟩ <;> simp at e <;> simp at h <;> first | omega | exact h.1))]
      exact rh_20 0 y m d v n (by simp [q0]) (by simp [q1]) (by simp [q2]) w
    by_cases q3 : v = 0
    case neg =>
      rw [show decide (HoIs ⟨4, y, m, d, v, n⟩) = false from decide_eq_false (fun h => q3 (by rcases h with ⟨e, h⟩ | ⟨e, h⟩ | ⟨e, h⟩ | ⟨e, h⟩ <;> simp at e <;> simp at h <;> first | omega | exact h.1))]
      exact rh_21 0 y m d v n (by simp [q0]) (by simp [q1]) (by simp [q2]) (by simp [q3]) w
    by_cases q4 : -100 ≤ n
    case neg =>
      rw [show decide (HoIs ⟨4, y, m, d, v, n⟩) = false from decide_eq_false (fun h => q4 (by rcases h with ⟨e, h⟩ | ⟨e, h⟩ | ⟨e, h⟩ | ⟨e, h⟩ <;> simp at e <;> simp at h <;> first | omega | exact h.1))]
      exact rh_22 0 y m d v n (by simp [q0]) (by simp [q1]) (by simp [q2]) (by simp [q3]) q4 w
    by_cases q5 : n ≤ 200
    case neg =>
      rw [show decide (HoIs ⟨4, y, m, d, v, n⟩) = false from decide_eq_false (fun h => q5 (by rcases h with ⟨e, h⟩ | ⟨e, h⟩ | ⟨e, h⟩ | ⟨e, h⟩ <;> simp at e <;> simp at h <;> first | omega | exact h.1))]
      exact rh_23 0 y m d v n (by simp [q0]) (by simp [q1]) (by simp [q2]) (by simp [q3]) q4 q5 w
    rw [show decide (HoIs ⟨4, y, m, d, v, n⟩) = true from decide_eq_true (.inr (.inr (.inr ⟨rfl, q0, q1, q2, q3, q4, q5⟩)))]
    exact rh_24 0 y m d v n (by simp [q0]) (by simp [q1]) (by simp [q2]) (by simp [q3]) q4 q5 w
  rw [show decide (HoIs ⟨k, y, m, d, v, n⟩) = false from decide_eq_false (by rintro (⟨h, _⟩ | ⟨h, _⟩ | ⟨h, _⟩ | ⟨h, _⟩) <;> first | exact h1 h | exact h2 h | exact h3 h | exact h4 h)]
  exact rh_25 k y m d v n h1 h2 h3 h4 w
end Go.Proofs.YtbffmobjiiicoaaGreatDoor.H8
end
section
/- Contracts of the document's one, Is and Kind. -/
set_option linter.unusedVariables false
set_option linter.unusedSimpArgs false
namespace Go.Proofs.YtbffmobjiiicoaaGreatDoor.H8
open Go.RowKit Go.Shelf
theorem on_1 {x y m d M D : Int} (hd : IsDate x y m d) : x ∈ yd y y M D ↔ m = M ∧ d = D := by
  unfold yd
  constructor
  · intro h
    split at h
    · rename_i q
      rw [List.mem_singleton] at h
      have := hd.unique ⟨q.1, h⟩
      exact ⟨this.2.1, this.2.2⟩
    · cases h
  · rintro ⟨rfl, rfl⟩
    rw [if_pos ⟨hd.1, rfl⟩, List.mem_singleton]
    exact hd.2
theorem on_2 {x y m d Y M D : Int} (hd : IsDate x y m d) : x ∈ yd y Y M D ↔ y = Y ∧ m = M ∧ d = D := by
  unfold yd
  constructor
  · intro h
    split at h
    · rename_i q
      rw [List.mem_singleton] at h
      have := hd.unique ⟨q.1, h⟩
      exact ⟨this.1, this.2.1, this.2.2⟩
    · cases h
  · rintro ⟨rfl, rfl, rfl⟩
    rw [if_pos ⟨hd.1, rfl⟩, List.mem_singleton]
    exact hd.2
theorem nth_may {y m v n : Int} (h : NthIs y m v n) : May y m (nthD y m v n) := by
  obtain ⟨hm1, hw, hn⟩ := h
  have hf := nthF_bounds y m v
  have hdl := dlen_ge (y := y) (m := m) hm1.2.2.1 hm1.2.2.2.1
  refine ⟨hm1.1, hm1.2.1, hm1.2.2.1, hm1.2.2.2.1, ?_, ?_⟩
  · unfold nthD; split <;> omega
  · rcases hn with hn | ⟨a, b, c⟩
    · unfold nthD; rw [if_pos hn]; omega
    · exact c
theorem on_3 {x y m d M v n : Int} (hd : IsDate x y m d) : x ∈ wd y M v n ↔ m = M ∧ NthIs y m v n ∧ nthD y m v n = d := by
  unfold wd
  constructor
  · intro h
    split at h
    · rename_i q
      rw [List.mem_singleton] at h
      have := hd.unique ⟨nth_may q, h⟩
      obtain ⟨_, rfl, e⟩ := this
      exact ⟨rfl, q, e.symm⟩
    · cases h
  · rintro ⟨rfl, q, e⟩
    rw [if_pos q, List.mem_singleton, e]
    exact hd.2
def EaOK (x n k : Int) : Prop := (1970 ≤ k ∧ k ≤ 9999) ∧ x - eaDay k = n
theorem on_4 {x y m d n : Int} (hd : IsDate x y m d) (hn : n ≤ 200) : x ∈ pd y y n ++ pd y (y + 1) n ↔ ∃ j : Nat, j < 3 ∧ EaOK x n (y - 1 + j) := by
  have hy := in_year hd.1
  rw [← hd.2] at hy
  have hy0 := hd.1.1
  have hy1 := hd.1.2.1
  rw [List.mem_append]
  unfold pd EaOK
  constructor
  · rintro (h | h)
    · split at h
      · rename_i q
        rw [List.mem_singleton] at h
        refine ⟨1, by omega, ?_⟩
        rw [show y - 1 + ((1 : Nat) : Int) = y by omega]
        exact ⟨⟨hy0, hy1⟩, by omega⟩
      · cases h
    · split at h
      · rename_i q
        rw [List.mem_singleton] at h
        refine ⟨2, by omega, ?_⟩
        rw [show y - 1 + ((2 : Nat) : Int) = y + 1 by omega]
        exact ⟨q.1, by omega⟩
      · cases h
  · rintro ⟨j, hj, ⟨k0, k1⟩, e⟩
    rcases (by omega : j = 0 ∨ j = 1 ∨ j = 2) with rfl | rfl | rfl
    · rw [show y - 1 + ((0 : Nat) : Int) = y - 1 by omega] at e k0 k1
      have a := ea_day k0 k1
      have b := year_days k0 k1
      rw [show y - 1 + 1 = y by omega] at b
      omega
    · rw [show y - 1 + ((1 : Nat) : Int) = y by omega] at e k0 k1
      left
      rw [if_pos ⟨⟨k0, k1⟩, by omega, by omega⟩, List.mem_singleton]
      omega
    · rw [show y - 1 + ((2 : Nat) : Int) = y + 1 by omega] at e k0 k1
      right
      rw [if_pos ⟨⟨k0, k1⟩, by omega, by omega⟩, List.mem_singleton]
      omega
set_option maxRecDepth 100000 in
set_option maxHeartbeats 2000000 in
theorem ro_1a (x y m d Y M D v n : Int) (hd : IsDate x y m d) (c0 : (m == M) = false) (w : World) :
    Calls Tryz.prog 86 #[.agg (hoC 1 Y M D v n), .int .i64 x] w fun e w' => e = .returned (.bool false) ∧ Below w.heap.size w w' := by
  have HB := Lib.hid ((Below.refl _ w).alloc (Nat.le_refl _) (.cells (hoC 1 Y M D v n) 91))
  have HO := Lib.hid (rof_is x y m d hd)
  clear hd
  go_enter Tryz.func86, Tryz.ntmps86
  go_wp2_with (first
    | (go_at_call 63; refine (HO.out _).mono ?_; rintro e w1 ⟨rfl, rfl⟩)
    )
  go_ret
  exact ⟨rfl, HB.out⟩
set_option maxRecDepth 100000 in
set_option maxHeartbeats 2000000 in
theorem ro_1b (x y m d Y M D v n : Int) (hd : IsDate x y m d) (c0 : (m == M) = true) (w : World) :
    Calls Tryz.prog 86 #[.agg (hoC 1 Y M D v n), .int .i64 x] w fun e w' => e = .returned (.bool (d == D)) ∧ Below w.heap.size w w' := by
  have HB := Lib.hid ((Below.refl _ w).alloc (Nat.le_refl _) (.cells (hoC 1 Y M D v n) 91))
  have HO := Lib.hid (rof_is x y m d hd)
  clear hd
  go_enter Tryz.func86, Tryz.ntmps86
  go_wp2_with (first
    | (go_at_call 63; refine (HO.out _).mono ?_; rintro e w1 ⟨rfl, rfl⟩)
    )
  go_ret
  exact ⟨rfl, HB.out⟩
set_option maxRecDepth 100000 in
set_option maxHeartbeats 2000000 in
theorem ro_2a (x y m d Y M D v n : Int) (hd : IsDate x y m d) (c0 : (y == Y) = false) (w : World) :
    Calls Tryz.prog 86 #[.agg (hoC 2 Y M D v n), .int .i64 x] w fun e w' => e = .returned (.bool false) ∧ Below w.heap.size w w' := by
  have HB := Lib.hid ((Below.refl _ w).alloc (Nat.le_refl _) (.cells (hoC 2 Y M D v n) 91))
  have HO := Lib.hid (rof_is x y m d hd)
  clear hd
  go_enter Tryz.func86, Tryz.ntmps86
  go_wp2_with (first
    | (go_at_call 63; refine (HO.out _).mono ?_; rintro e w1 ⟨rfl, rfl⟩)
    )
  go_ret
  exact ⟨rfl, HB.out⟩
set_option maxRecDepth 100000 in
set_option maxHeartbeats 2000000 in
theorem ro_2b (x y m d Y M D v n : Int) (hd : IsDate x y m d) (c0 : (y == Y) = true) (c1 : (m == M) = false) (w : World) :
    Calls Tryz.prog 86 #[.agg (hoC 2 Y M D v n), .int .i64 x] w fun e w' => e = .returned (.bool false) ∧ Below w.heap.size w w' := by
  have HB := Lib.hid ((Below.refl _ w).alloc (Nat.le_refl _) (.cells (hoC 2 Y M D v n) 91))
  have HO := Lib.hid (rof_is x y m d hd)
  clear hd
  go_enter Tryz.func86, Tryz.ntmps86
  go_wp2_with (first
    | (go_at_call 63; refine (HO.out _).mono ?_; rintro e w1 ⟨rfl, rfl⟩)
    )
  go_ret
  exact ⟨rfl, HB.out⟩
set_option maxRecDepth 100000 in
set_option maxHeartbeats 2000000 in
theorem ro_2c (x y m d Y M D v n : Int) (hd : IsDate x y m d) (c0 : (y == Y) = true) (c1 : (m == M) = true) (w : World) :
    Calls Tryz.prog 86 #[.agg (hoC 2 Y M D v n), .int .i64 x] w fun e w' => e = .returned (.bool (d == D)) ∧ Below w.heap.size w w' := by
  have HB := Lib.hid ((Below.refl _ w).alloc (Nat.le_refl _) (.cells (hoC 2 Y M D v n) 91))
  have HO := Lib.hid (rof_is x y m d hd)
  clear hd
  go_enter Tryz.func86, Tryz.ntmps86
  go_wp2_with (first
    | (go_at_call 63; refine (HO.out _).mono ?_; rintro e w1 ⟨rfl, rfl⟩)
    )
  go_ret
  exact ⟨rfl, HB.out⟩
set_option maxRecDepth 100000 in
set_option maxHeartbeats 2000000 in
theorem ro_3a (x y m d Y M D v n : Int) (hd : IsDate x y m d) (c0 : (m == M) = false) (hn : NthIs y m v n) (w : World) :
    Calls Tryz.prog 86 #[.agg (hoC 3 Y M D v n), .int .i64 x] w fun e w' => e = .returned (.bool false) ∧ Below w.heap.size w w' := by
  have HB := Lib.hid ((Below.refl _ w).alloc (Nat.le_refl _) (.cells (hoC 3 Y M D v n) 91))
  have HO := Lib.hid (rof_is x y m d hd)
  have HN := Lib.hid (rnth_yes y m v n hn)
  obtain ⟨Q, hQ⟩ : ∃ Q, Q = nthD y m v n := ⟨_, rfl⟩
  rw [← hQ] at HN
  clear hn hQ
  clear hd
  go_enter Tryz.func86, Tryz.ntmps86
  go_wp2_with (first
    | (go_at_call 63; refine (HO.out _).mono ?_; rintro e w1 ⟨rfl, rfl⟩)
    | (go_at_call 99; refine (HN.out _).mono ?_; rintro e w2 ⟨rfl, rfl⟩))
  go_ret
  exact ⟨rfl, HB.out⟩
set_option maxRecDepth 100000 in
set_option maxHeartbeats 2000000 in
theorem ro_3b (x y m d Y M D v n : Int) (hd : IsDate x y m d) (c0 : (m == M) = true) (hn : NthIs y m v n) (w : World) :
    Calls Tryz.prog 86 #[.agg (hoC 3 Y M D v n), .int .i64 x] w fun e w' => e = .returned (.bool (nthD y m v n == d)) ∧ Below w.heap.size w w' := by
  have HB := Lib.hid ((Below.refl _ w).alloc (Nat.le_refl _) (.cells (hoC 3 Y M D v n) 91))
  have HO := Lib.hid (rof_is x y m d hd)
  have HN := Lib.hid (rnth_yes y m v n hn)
  obtain ⟨Q, hQ⟩ : ∃ Q, Q = nthD y m v n := ⟨_, rfl⟩
  rw [← hQ] at HN ⊢
  clear hn hQ
  clear hd
  go_enter Tryz.func86, Tryz.ntmps86
  go_wp2_with (first
    | (go_at_call 63; refine (HO.out _).mono ?_; rintro e w1 ⟨rfl, rfl⟩)
    | (go_at_call 99; refine (HN.out _).mono ?_; rintro e w2 ⟨rfl, rfl⟩))
  go_ret
  exact ⟨rfl, HB.out⟩
set_option maxRecDepth 100000 in
set_option maxHeartbeats 2000000 in
theorem ro_3c (x y m d Y M D v n : Int) (hd : IsDate x y m d) (c0 : (m == M) = false) (hn : ¬ NthIs y m v n) (w : World) :
    Calls Tryz.prog 86 #[.agg (hoC 3 Y M D v n), .int .i64 x] w fun e w' => e = .returned (.bool false) ∧ Below w.heap.size w w' := by
  have HB := Lib.hid ((Below.refl _ w).alloc (Nat.le_refl _) (.cells (hoC 3 Y M D v n) 91))
  have HO := Lib.hid (rof_is x y m d hd)
  have HN := Lib.hid (rnth_no y m v n hn)
  clear hn
  clear hd
  go_enter Tryz.func86, Tryz.ntmps86
  go_wp2_with (first
    | (go_at_call 63; refine (HO.out _).mono ?_; rintro e w1 ⟨rfl, rfl⟩)
    | (go_at_call 99; refine (HN.out _).mono ?_; rintro e w2 ⟨rfl, rfl⟩))
  go_ret
  exact ⟨rfl, HB.out⟩
set_option maxRecDepth 100000 in
set_option maxHeartbeats 2000000 in
theorem ro_3d (x y m d Y M D v n : Int) (hd : IsDate x y m d) (c0 : (m == M) = true) (hn : ¬ NthIs y m v n) (w : World) :
    Calls Tryz.prog 86 #[.agg (hoC 3 Y M D v n), .int .i64 x] w fun e w' => e = .returned (.bool false) ∧ Below w.heap.size w w' := by
  have HB := Lib.hid ((Below.refl _ w).alloc (Nat.le_refl _) (.cells (hoC 3 Y M D v n) 91))
  have HO := Lib.hid (rof_is x y m d hd)
  have HN := Lib.hid (rnth_no y m v n hn)
  clear hn
  clear hd
  go_enter Tryz.func86, Tryz.ntmps86
  go_wp2_with (first
    | (go_at_call 63; refine (HO.out _).mono ?_; rintro e w1 ⟨rfl, rfl⟩)
    | (go_at_call 99; refine (HN.out _).mono ?_; rintro e w2 ⟨rfl, rfl⟩))
  go_ret
  exact ⟨rfl, HB.out⟩
set_option maxRecDepth 100000 in
set_option maxHeartbeats 4000000 in
theorem ro_4 (x y m d Y M D v n : Int) (hd : IsDate x y m d) (ok : Bool) (hok : ok = true ↔ ∃ j : Nat, j < 3 ∧ EaOK x n (y - 1 + j)) (w : World) :
    Calls Tryz.prog 86 #[.agg (hoC 4 Y M D v n), .int .i64 x] w fun e w' => e = .returned (.bool ok) ∧ Below w.heap.size w w' := by
  have hz := heap_alloc_new w (.cells (hoC 4 Y M D v n) 91)
  have hb0 := (Below.refl _ w).alloc (Nat.le_refl _) (.cells (hoC 4 Y M D v n) 91)
  obtain ⟨X, hX⟩ : ∃ X, X = w.alloc (.cells (hoC 4 Y M D v n) 91) := ⟨_, rfl⟩
  rw [← hX] at hz hb0
  have hxs : X.heap.size = w.heap.size + 1 := by rw [hX, World.size_alloc]
  have HO := Lib.hid (rof_is x y m d hd)
  have hxb := day_bounds hd.1
  rw [← hd.2] at hxb
  obtain ⟨x0, x1⟩ := hxb
  have y0 := hd.1.1
  have y1 := hd.1.2.1
  have HZ := Lib.hid hz
  have HB := Lib.hid hb0
  have HX := Lib.hid hX
  have HK := Lib.hid hok
  have HXS := Lib.hid hxs
  clear hd hz hb0 hX hok hxs
  go_enter Tryz.func86, Tryz.ntmps86
  go_wp2_with (go_at_call 63; refine (HO.out _).mono ?_; rintro e w1 ⟨rfl, rfl⟩)
  go_loopw [11] (fun i wr => ∃ j : Nat, j ≤ 3 ∧ i = .int .i64 (y - 1 + j) ∧ (∀ q, q < j → ¬ EaOK x n (y - 1 + q)) ∧ Below X.heap.size X wr) (fun i _ => (y + 2 - intOf i).toNat)
  case atStart => exact ⟨0, by omega, by simp, fun q hq => absurd hq (Nat.not_lt_zero _), by rw [HX.out]; exact Below.refl _ _⟩
  case round =>
    obtain ⟨j, hj, rfl, hall, hb⟩ := hrel
    have HA := Lib.hid hall
    have HBR := Lib.hid hb
    have hzr := (hb.block w.heap.size (by rw [HXS.out]; omega)).trans HZ.out
    have c5 : wr.cell? ⟨w.heap.size, 5, none⟩ = some (.int .i64 n) := cell_of_row wr _ 5 _ _ _ hzr
    clear hall hb hzr
    by_cases hlt : j < 3
    · obtain ⟨K, hK⟩ : ∃ K, K = y - 1 + (j : Int) := ⟨_, rfl⟩
      have hKb : 1969 ≤ K ∧ K ≤ y + 1 := by omega
      obtain ⟨hK0, hK1⟩ := hKb
      rw [← hK]
      have HKK := Lib.hid hK
      clear hK
      by_cases hr : 1970 ≤ K ∧ K ≤ 9999
      · obtain ⟨r0, r1⟩ := hr
        have HBH := Lib.hid (fun W => rbehind_any x K r0 r1 x0 x1 W)
        obtain ⟨N, hN⟩ : ∃ N, N = x - eaDay K := ⟨_, rfl⟩
        rw [← hN] at HBH
        have HN := Lib.hid hN
        clear hN
        by_cases he : N = n
        · have g : (N == n) = true := by simp [he]
          have HT := Lib.hid (show ok = true from HK.out.2 ⟨j, hlt, by rw [← HKK.out]; exact ⟨⟨r0, r1⟩, by rw [← HN.out]; exact he⟩⟩)
          go_wp2_with fail
          go_quiet ((go_at_call 101; exact Calls.quiet_of_same ((HBH.out _).mono fun _ _ h => ⟨h.1, h.2.symm⟩)))
          have HBF := Lib.hid (HB.out.trans ((below_drewN HBR.out nq).mono (by rw [HXS.out]; omega)))
          go_wp2
          go_ret
          rw [HT.out]
          exact ⟨rfl, HBF.out⟩
        · have g : (N == n) = false := by simp [he]
          go_wp2_with fail
          go_quiet ((go_at_call 101; exact Calls.quiet_of_same ((HBH.out _).mono fun _ _ h => ⟨h.1, h.2.symm⟩)))
          have HBF := Lib.hid (below_drewN HBR.out nq)
          go_wp2
          go_roundw
          case rel =>
            refine ⟨j + 1, by omega, ?_, fun q hq => ?_, HBF.out⟩
            · have := HKK.out
              first | (congr 1; omega) | (simp; omega)
            · rcases Nat.lt_succ_iff_lt_or_eq.1 hq with h | rfl
              · exact HA.out q h
              · rw [← HKK.out]; exact fun h => he (by rw [HN.out]; exact h.2)
          case measure => simp [intOf]; omega
      · go_wp2_with fail
        by_cases r0 : 1970 ≤ K
        all_goals
          try have r1 : ¬ K ≤ 9999 := fun h => hr ⟨r0, h⟩
          go_quiet (fail)
          have HBF := Lib.hid (below_drewN HBR.out nq)
          go_wp2
          go_roundw
          case rel =>
            refine ⟨j + 1, by omega, ?_, fun q hq => ?_, HBF.out⟩
            · have := HKK.out
              first | (congr 1; omega) | (simp; omega)
            · rcases Nat.lt_succ_iff_lt_or_eq.1 hq with h | rfl
              · exact HA.out q h
              · rw [← HKK.out]; exact fun h => hr h.1
          case measure => simp [intOf]; omega
    · have hj3 : j = 3 := by omega
      subst hj3
      have HT := Lib.hid (show ok = false from by
        cases hk : ok
        · rfl
        · obtain ⟨q, hq, h⟩ := HK.out.1 hk
          exact absurd h (HA.out q hq))
      have hend : ¬ (y - 1 + ((3 : Nat) : Int) ≤ y + 1) := by omega
      go_wp2
      go_ret
      rw [HT.out]
      exact ⟨rfl, HB.out.trans (HBR.out.mono (by rw [HXS.out]; omega))⟩
theorem rone_any (h : Ho) (x y m d : Int) (hd : IsDate x y m d) (hh : HoIs h) (w : World) :
    Calls Tryz.prog 86 #[hoV h, .int .i64 x] w fun e w' => e = .returned (.bool (decide (x ∈ hoDays h y))) ∧ Below w.heap.size w w' := by
  obtain ⟨k, Y, M, D, v, n⟩ := h
  rcases hh with ⟨hk, _⟩ | ⟨hk, _⟩ | ⟨hk, _⟩ | ⟨hk, _, _, _, _, hn⟩
  all_goals
    simp only at hk
    subst hk
  · rw [show decide (x ∈ hoDays ⟨1, Y, M, D, v, n⟩ y) = decide (m = M ∧ d = D) from by rw [Bool.eq_iff_iff, decide_eq_true_iff, decide_eq_true_iff, ← on_1 hd]; simp [hoDays]]
    by_cases c : m = M
    · rw [show decide (m = M ∧ d = D) = (d == D) from by rw [Bool.eq_iff_iff]; simp [c]]
      exact ro_1b x y m d Y M D v n hd (by simp [c]) w
    · rw [show decide (m = M ∧ d = D) = false from by simp [c]]
      exact ro_1a x y m d Y M D v n hd (by simp [c]) w
  · rw [show decide (x ∈ hoDays ⟨2, Y, M, D, v, n⟩ y) = decide (y = Y ∧ m = M ∧ d = D) from by rw [Bool.eq_iff_iff, decide_eq_true_iff, decide_eq_true_iff, ← on_2 hd]; simp [hoDays]]
    by_cases cy : y = Y
    · by_cases c : m = M
      · rw [show decide (y = Y ∧ m = M ∧ d = D) = (d == D) from by rw [Bool.eq_iff_iff]; simp [c, cy]]
        exact ro_2c x y m d Y M D v n hd (by simp [cy]) (by simp [c]) w
      · rw [show decide (y = Y ∧ m = M ∧ d = D) = false from by simp [c]]
        exact ro_2b x y m d Y M D v n hd (by simp [cy]) (by simp [c]) w
    · rw [show decide (y = Y ∧ m = M ∧ d = D) = false from by simp [cy]]
      exact ro_2a x y m d Y M D v n hd (by simp [cy]) w
  · rw [show decide (x ∈ hoDays ⟨3, Y, M, D, v, n⟩ y) = decide (m = M ∧ NthIs y m v n ∧ nthD y m v n = d) from by rw [Bool.eq_iff_iff, decide_eq_true_iff, decide_eq_true_iff, ← on_3 hd]; simp [hoDays]]
    by_cases c : m = M
    · by_cases q : NthIs y m v n
      · rw [show decide (m = M ∧ NthIs y m v n ∧ nthD y m v n = d) = (nthD y m v n == d) from by rw [Bool.eq_iff_iff, decide_eq_true_iff]; simp only [beq_iff_eq]; exact ⟨fun h => h.2.2, fun h => ⟨c, q, h⟩⟩]
        exact ro_3b x y m d Y M D v n hd (by simp [c]) q w
      · rw [show decide (m = M ∧ NthIs y m v n ∧ nthD y m v n = d) = false from decide_eq_false (fun h => q h.2.1)]
        exact ro_3d x y m d Y M D v n hd (by simp [c]) q w
    · rw [show decide (m = M ∧ NthIs y m v n ∧ nthD y m v n = d) = false from decide_eq_false (fun h => c h.1)]
      by_cases q : NthIs y m v n
      · exact ro_3a x y m d Y M D v n hd (by simp [c]) q w
      · exact ro_3c x y m d Y M D v n hd (by simp [c]) q w
  · refine ro_4 x y m d Y M D v n hd _ ?_ w
    rw [decide_eq_true_iff, ← on_4 hd hn.2]
    simp [hoDays]
set_option maxRecDepth 100000 in
set_option maxHeartbeats 2000000 in
theorem rIs_any (ha : Option Addr) (hl hc : Nat) (sa : Option Addr) (sl sc : Nat) (H : Nat → Ho) (x y m d : Int) (hd : IsDate x y m d) (hho : ∀ i, i < hl → HoIs (H i)) (w : World) (hH : HosAt w.heap.size w ha hl H) (hlm : hl ≤ 100) :
    Calls Tryz.prog 68 #[calV ha hl hc sa sl sc, .int .i64 x] w fun e w' => e = .returned (.bool (decide (x ∈ hds H y hl))) ∧ Below w.heap.size w w' := by
  have hz := heap_alloc_new w (.cells #[.slice ha hl hc, .slice sa sl sc] 28)
  have hb0 := (Below.refl _ w).alloc (Nat.le_refl _) (.cells #[.slice ha hl hc, .slice sa sl sc] 28)
  obtain ⟨X, hX⟩ : ∃ X, X = w.alloc (.cells #[.slice ha hl hc, .slice sa sl sc] 28) := ⟨_, rfl⟩
  rw [← hX] at hz hb0
  have hxs : X.heap.size = w.heap.size + 1 := by rw [hX, World.size_alloc]
  have HZ := Lib.hid hz
  have HB := Lib.hid hb0
  have HX := Lib.hid hX
  have HXS := Lib.hid hxs
  have HH := Lib.hid (hH.next hb0 (Nat.le_refl _) (Nat.le_refl _))
  have HO := Lib.hid hho
  have HD := Lib.hid hd
  clear hz hb0 hX hxs hH hho hd
  go_enter Tryz.func68, Tryz.ntmps68
  go_wp2
  go_loopw [5] (fun i wr => ∃ k : Nat, k ≤ hl ∧ i = .int .i64 k ∧ (∀ q, q < k → x ∉ hoDays (H q) y) ∧ Below X.heap.size X wr) (fun i _ => (hl - intOf i).toNat)
  case atStart => exact ⟨0, Nat.zero_le _, rfl, fun q hq => absurd hq (Nat.not_lt_zero _), by rw [HX.out]; exact Below.refl _ _⟩
  case round =>
    obtain ⟨k, hk, rfl, hall, hb⟩ := hrel
    have HA := Lib.hid hall
    have HBR := Lib.hid hb
    have hzr := (hb.block w.heap.size (by rw [HXS.out]; omega)).trans HZ.out
    have b0 : wr.cell? ⟨w.heap.size, 0, none⟩ = some (.slice ha hl hc) := cell_of_row wr _ 0 _ _ _ hzr
    clear hall hb hzr
    by_cases hlt : k < hl
    · have hlti : (k : Int) < hl := by omega
      obtain ⟨b, o, rfl, hbl, c0, c1, c2, c3, c4, c5⟩ := HH.out.next HBR.out (by rw [HXS.out]; omega) (Nat.le_refl _) k hlt
      obtain ⟨h, hhk⟩ : ∃ h, h = H k := ⟨_, rfl⟩
      rw [← hhk] at c0 c1 c2 c3 c4 c5
      have HR := Lib.hid (rone_any h x y m d HD.out (by rw [hhk]; exact HO.out k hlt) wr)
      have HE := Lib.hid hhk
      clear hhk
      by_cases hi : x ∈ hoDays h y
      · rw [decide_eq_true hi] at HR
        have HT := Lib.hid (show decide (x ∈ hds H y hl) = true from decide_eq_true (mem_hds.2 ⟨k, hlt, by rw [← HE.out]; exact hi⟩))
        go_wp2_with (go_at_call 86; refine HR.out.mono ?_; rintro e w2 ⟨rfl, hB2⟩; have HB2 := Lib.hid hB2; clear hB2)
        go_ret
        rw [HT.out]
        exact ⟨rfl, HB.out.trans ((HBR.out.trans (HB2.out.mono HBR.out.size)).mono (by rw [HXS.out]; omega))⟩
      · rw [decide_eq_false hi] at HR
        go_wp2_with (go_at_call 86; refine HR.out.mono ?_; rintro e w2 ⟨rfl, hB2⟩; have HB2 := Lib.hid hB2; clear hB2)
        go_roundw
        case rel => exact ⟨k + 1, by omega, by go_num, fun q hq => by rcases Nat.lt_succ_iff_lt_or_eq.1 hq with h' | h'; exact HA.out q h'; rw [h', ← HE.out]; exact hi, HBR.out.trans (HB2.out.mono HBR.out.size)⟩
        case measure => first | (simp [intOf]; done) | (simp [intOf]; omega)
    · have hke : k = hl := by omega
      subst hke
      have hnl : ¬ ((k : Int) < k) := by omega
      have HT := Lib.hid (show decide (x ∈ hds H y k) = false from decide_eq_false (fun h => by obtain ⟨q, hq, h'⟩ := mem_hds.1 h; exact HA.out q hq h'))
      go_wp2
      go_ret
      rw [HT.out]
      exact ⟨rfl, HB.out.trans (HBR.out.mono (by rw [HXS.out]; omega))⟩
set_option maxRecDepth 100000 in
set_option maxHeartbeats 2000000 in
theorem rKind_any (ha : Option Addr) (hl hc : Nat) (sa : Option Addr) (sl sc : Nat) (H : Nat → Ho) (x y m d : Int) (hd : IsDate x y m d) (hho : ∀ i, i < hl → HoIs (H i)) (w : World) (hH : HosAt w.heap.size w ha hl H) (hlm : hl ≤ 100) :
    Calls Tryz.prog 34 #[calV ha hl hc sa sl sc, .int .i64 x] w fun e w' => e = .returned (.int .i64 (kindB x (decide (x ∈ hds H y hl)))) ∧ Below w.heap.size w w' := by
  have hb0 := (Below.refl _ w).alloc (Nat.le_refl _) (.cells #[.slice ha hl hc, .slice sa sl sc] 28)
  have HR := Lib.hid (rIs_any ha hl hc sa sl sc H x y m d hd hho (w.alloc (.cells #[.slice ha hl hc, .slice sa sl sc] 28)) ((hH.next hb0 (Nat.le_refl _) (Nat.le_refl _)).mono hb0.size) hlm)
  have HB := Lib.hid hb0
  have hxb := day_bounds hd.1
  rw [← hd.2] at hxb
  have hk := wkB_in hxb.1 hxb.2
  obtain ⟨f, hf⟩ : ∃ f, f = decide (x ∈ hds H y hl) := ⟨_, rfl⟩
  rw [← hf] at HR ⊢
  have HW := Lib.hid (fun W => rweekday_any x W)
  obtain ⟨V, hV⟩ : ∃ V, V = wkB x := ⟨_, rfl⟩
  rw [← hV] at HW hk
  unfold kindB kindW
  rw [← hk]
  clear hb0 hH hd hho hf hV hk hxb
  cases f
  · by_cases c7 : V = 7
    · have g7 : (V == 7) = true := by simp [c7]
      rw [if_neg (by simp), if_pos c7]
      clear c7
      go_enter Tryz.func34, Tryz.ntmps34
      go_wp2_with (first
        | (go_at_call 67; refine (HW.out _).mono ?_; rintro e w1 ⟨rfl, rfl⟩)
        | (go_at_call 68; refine HR.out.mono ?_; rintro e w2 ⟨rfl, hB2⟩; have HB2 := Lib.hid hB2; clear hB2))
      go_ret
      exact ⟨rfl, HB.out.trans (HB2.out.mono HB.out.size)⟩
    · by_cases c6 : V = 6
      · have g7 : (V == 7) = false := by simp [c7]
        have g6 : (V == 6) = true := by simp [c6]
        rw [if_neg (by simp), if_neg c7, if_pos c6]
        clear c7 c6
        go_enter Tryz.func34, Tryz.ntmps34
        go_wp2_with (first
          | (go_at_call 67; refine (HW.out _).mono ?_; rintro e w1 ⟨rfl, rfl⟩)
          | (go_at_call 68; refine HR.out.mono ?_; rintro e w2 ⟨rfl, hB2⟩; have HB2 := Lib.hid hB2; clear hB2))
        go_ret
        exact ⟨rfl, HB.out.trans (HB2.out.mono HB.out.size)⟩
      · have g7 : (V == 7) = false := by simp [c7]
        have g6 : (V == 6) = false := by simp [c6]
        rw [if_neg (by simp), if_neg c7, if_neg c6]
        clear c7 c6
        go_enter Tryz.func34, Tryz.ntmps34
        go_wp2_with (first
          | (go_at_call 67; refine (HW.out _).mono ?_; rintro e w1 ⟨rfl, rfl⟩)
          | (go_at_call 68; refine HR.out.mono ?_; rintro e w2 ⟨rfl, hB2⟩; have HB2 := Lib.hid hB2; clear hB2))
        go_ret
        exact ⟨rfl, HB.out.trans (HB2.out.mono HB.out.size)⟩
  · rw [if_pos rfl]
    go_enter Tryz.func34, Tryz.ntmps34
    go_wp2_with (first
      | (go_at_call 67; refine (HW.out _).mono ?_; rintro e w1 ⟨rfl, rfl⟩)
      | (go_at_call 68; refine HR.out.mono ?_; rintro e w2 ⟨rfl, hB2⟩; have HB2 := Lib.hid hB2; clear hB2))
    go_ret
    exact ⟨rfl, HB.out.trans (HB2.out.mono HB.out.size)⟩
end Go.Proofs.YtbffmobjiiicoaaGreatDoor.H8
end
