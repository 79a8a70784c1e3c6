/- Contracts of the small functions of days, and of Easter. -/
import Derived.Test.YtgedcfgmfhlkdaaDoorHMath
set_option linter.unusedVariables false
set_option linter.unusedSimpArgs false
namespace Go.Proofs.YtgedcfgmfhlkdaaDoor
open Go.RowKit Go.Shelf
theorem isFrom_any (n a b : Int) (w : World) :
    Calls Tryd.prog 55 #[.int .i64 n, .int .i64 a, .int .i64 b] w fun e w' => e = .returned (.bool (decide (a ≤ n ∧ n ≤ b))) ∧ w = w' := by
  by_cases h0 : a ≤ n <;> by_cases h1 : n ≤ b
  · rw [show decide (a ≤ n ∧ n ≤ b) = true from decide_eq_true ⟨h0, h1⟩]
    go_enter Tryd.func55, Tryd.ntmps55
    go_wp2
    go_ret
    exact ⟨rfl, rfl⟩
  · rw [show decide (a ≤ n ∧ n ≤ b) = false from decide_eq_false (by omega)]
    go_enter Tryd.func55, Tryd.ntmps55
    go_wp2
    go_ret
    exact ⟨rfl, rfl⟩
  · rw [show decide (a ≤ n ∧ n ≤ b) = false from decide_eq_false (by omega)]
    go_enter Tryd.func55, Tryd.ntmps55
    go_wp2
    go_ret
    exact ⟨rfl, rfl⟩
  · rw [show decide (a ≤ n ∧ n ≤ b) = false from decide_eq_false (by omega)]
    go_enter Tryd.func55, Tryd.ntmps55
    go_wp2
    go_ret
    exact ⟨rfl, rfl⟩
theorem isYear_any (y : Int) (w : World) :
    Calls Tryd.prog 45 #[.int .i64 y] w fun e w' => e = .returned (.bool (decide (1970 ≤ y ∧ y ≤ 9999))) ∧ w = w' := by
  go_enter Tryd.func45, Tryd.ntmps45
  go_wp2_with (go_at_call 55; refine (isFrom_any _ _ _ _).mono ?_; rintro e w' ⟨rfl, rfl⟩)
  go_ret
  exact ⟨by simp, rfl⟩
theorem beginOn_any (m d : Int) (h1 : 1 ≤ m ∧ m ≤ 12) (h2 : 1 ≤ d ∧ d ≤ 31) (w : World) :
    Calls Tryd.prog 40 #[.int .i64 m, .int .i64 d] w fun e w' => e = .returned (.int .i64 (bgn m d)) ∧ w = w' := by
  unfold bgn
  go_enter Tryd.func40, Tryd.ntmps40
  go_wp2
  go_ret
  exact ⟨rfl, rfl⟩
theorem kindOf_yes (x : Int) (w : World) :
    Calls Tryd.prog 38 #[.int .i64 x, .bool true] w fun e w' => e = .returned (.int .i64 4) ∧ w = w' := by
  go_enter Tryd.func38, Tryd.ntmps38
  go_wp2_with (go_at_call 30; refine (weekday_any _ _).mono ?_; rintro e w' ⟨rfl, rfl⟩)
  go_ret
  exact ⟨rfl, rfl⟩
theorem kindOf_no (x : Int) (h0 : 0 ≤ x) (h1 : x ≤ 2932896) (w : World) :
    Calls Tryd.prog 38 #[.int .i64 x, .bool false] w fun e w' => e = .returned (.int .i64 (kindW x)) ∧ w = w' := by
  have hk := wkB_in h0 h1
  unfold kindW
  rw [← hk]
  by_cases c7 : wkB x = 7
  · rw [if_pos c7]
    go_enter Tryd.func38, Tryd.ntmps38
    go_wp2_with (go_at_call 30; refine (weekday_any _ _).mono ?_; rintro e w' ⟨rfl, rfl⟩)
    go_ret
    exact ⟨rfl, rfl⟩
  · rw [if_neg c7]
    by_cases c6 : wkB x = 6
    · rw [if_pos c6]
      go_enter Tryd.func38, Tryd.ntmps38
      go_wp2_with (go_at_call 30; refine (weekday_any _ _).mono ?_; rintro e w' ⟨rfl, rfl⟩)
      go_ret
      exact ⟨rfl, rfl⟩
    · rw [if_neg c6]
      go_enter Tryd.func38, Tryd.ntmps38
      go_wp2_with (go_at_call 30; refine (weekday_any _ _).mono ?_; rintro e w' ⟨rfl, rfl⟩)
      go_ret
      exact ⟨rfl, rfl⟩
theorem kindOf_any (x : Int) (f : Bool) (h0 : 0 ≤ x) (h1 : x ≤ 2932896) (w : World) :
    Calls Tryd.prog 38 #[.int .i64 x, .bool f] w fun e w' => e = .returned (.int .i64 (kindB x f)) ∧ w = w' := by
  cases f
  · exact kindOf_no x h0 h1 w
  · exact kindOf_yes x w
theorem results_easter {y m d e : Int} {b : Nat} {tmps : Array Value} {w : World} (h2 : tmps.getD 2 undef = .pointer (some ⟨b, 0, none⟩)) (h3 : tmps.getD 3 undef = .int .i64 e)
    (hb : w.heap[b]? = some (.cells #[.int .i64 y, .int .i64 m, .int .i64 d] 39 (0, 0))) : (results Tryd.f20 tmps).run Tryd.prog w = .ok (.tuple #[dateV y m d, .int .i64 e]) w := by
  have c0 : w.cell? ⟨b, 0, none⟩ = some (.int .i64 y) := cell_of_row w b 0 _ _ _ hb
  have c1 : w.cell? ⟨b, 1, none⟩ = some (.int .i64 m) := cell_of_row w b 1 _ _ _ hb
  have c2 : w.cell? ⟨b, 2, none⟩ = some (.int .i64 d) := cell_of_row w b 2 _ _ _ hb
  simp only [Array.getD_eq_getD_getElem?] at h2 h3
  simp [results, Tryd.results20, go_sem, h2, h3, c0, c1, c2, dateV]
theorem easter_no (y : Int) (h : ¬ (1970 ≤ y ∧ y ≤ 9999)) (w : World) :
    Calls Tryd.prog 20 #[.int .i64 y] w fun e w' => e = .returned (.tuple #[dateV 0 0 0, .int .i64 60]) ∧ Below w.heap.size w w' := by
  have hr := heap_alloc_new w (.cells #[.int .i64 0, .int .i64 0, .int .i64 0] 39)
  have HB := Lib.hid ((Below.refl _ w).alloc (Nat.le_refl _) (.cells #[.int .i64 0, .int .i64 0, .int .i64 0] 39))
  have hy : decide (1970 ≤ y ∧ y ≤ 9999) = false := decide_eq_false h
  have f0 := frozen_of_row _ w.heap.size 0 _ _ hr
  have f1 := frozen_of_row _ w.heap.size 1 _ _ hr
  have f2 := frozen_of_row _ w.heap.size 2 _ _ hr
  have a0 : (w.alloc (.cells #[.int .i64 0, .int .i64 0, .int .i64 0] 39)).cell? ⟨w.heap.size, 0, none⟩ = some (.int .i64 0) := cell_of_row _ w.heap.size 0 _ _ _ hr
  have a1 : (w.alloc (.cells #[.int .i64 0, .int .i64 0, .int .i64 0] 39)).cell? ⟨w.heap.size, 1, none⟩ = some (.int .i64 0) := cell_of_row _ w.heap.size 1 _ _ _ hr
  have a2 : (w.alloc (.cells #[.int .i64 0, .int .i64 0, .int .i64 0] 39)).cell? ⟨w.heap.size, 2, none⟩ = some (.int .i64 0) := cell_of_row _ w.heap.size 2 _ _ _ hr
  have HR := Lib.hid hr
  clear hr h
  go_enter Tryd.func20, Tryd.ntmps20
  go_wp2_with (go_at_call 45; refine (isYear_any _ _).mono ?_; rintro e w' ⟨rfl, rfl⟩; rw [hy])
  refine bodyPost_ret (results_easter rfl rfl HR.out) rfl ?_
  exact ⟨rfl, HB.out⟩
set_option maxRecDepth 100000 in
set_option maxHeartbeats 2000000 in
theorem easter_yes (y : Int) (h0 : 1970 ≤ y) (h1 : y ≤ 9999) (w : World) :
    Calls Tryd.prog 20 #[.int .i64 y] w fun e w' => e = .returned (.tuple #[dateV y (eaM y) (eaD y), .int .i64 0]) ∧ Below w.heap.size w w' := by
  have hr := heap_alloc_new w (.cells #[.int .i64 0, .int .i64 0, .int .i64 0] 39)
  have HB := Lib.hid ((Below.refl _ w).alloc (Nat.le_refl _) (.cells #[.int .i64 0, .int .i64 0, .int .i64 0] 39))
  have hy : decide (1970 ≤ y ∧ y ≤ 9999) = true := decide_eq_true ⟨h0, h1⟩
  have f0 := frozen_of_row _ w.heap.size 0 _ _ hr
  have f1 := frozen_of_row _ w.heap.size 1 _ _ hr
  have f2 := frozen_of_row _ w.heap.size 2 _ _ hr
  have a0 : (w.alloc (.cells #[.int .i64 0, .int .i64 0, .int .i64 0] 39)).cell? ⟨w.heap.size, 0, none⟩ = some (.int .i64 0) := cell_of_row _ w.heap.size 0 _ _ _ hr
  have a1 : (w.alloc (.cells #[.int .i64 0, .int .i64 0, .int .i64 0] 39)).cell? ⟨w.heap.size, 1, none⟩ = some (.int .i64 0) := cell_of_row _ w.heap.size 1 _ _ _ hr
  have a2 : (w.alloc (.cells #[.int .i64 0, .int .i64 0, .int .i64 0] 39)).cell? ⟨w.heap.size, 2, none⟩ = some (.int .i64 0) := cell_of_row _ w.heap.size 2 _ _ _ hr
  have HR := Lib.hid hr
  have HY := Lib.hid hy
  clear hr hy
  go_enter Tryd.func20, Tryd.ntmps20
  go_wp2_with (go_at_call 45; refine (isYear_any _ _).mono ?_; rintro e w' ⟨rfl, rfl⟩; rw [HY.out])
  refine bodyPost_ret (results_easter rfl rfl (heap_alloc_new w _)) rfl ?_
  have e4 : y % 100 % 4 = y % 4 := by omega
  refine ⟨?_, (Below.refl _ w).alloc (Nat.le_refl _) _⟩
  simp only [eaM, eaD, eaN, eaL, eaH, e4]
end Go.Proofs.YtgedcfgmfhlkdaaDoor
