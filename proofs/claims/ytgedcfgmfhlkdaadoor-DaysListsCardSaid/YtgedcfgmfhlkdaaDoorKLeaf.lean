/- Contracts of the small functions of package civil: Leap, Days, Check, leapsTo, daysAhead, yearOf, isDay, Weekday, isBelow. -/
import Derived.Test.YtgedcfgmfhlkdaaDoorProg
import Derived.WalkKit
import Derived.WalkLawsBesides
import Derived.Lib.Hide
import Derived.Below
import Derived.LoopTactic
import Derived.Laws.Rows
import Derived.Laws.Tables
import Derived.Deep.QuietTactic
import Derived.BigQuiet
import Derived.WalkSmall
import Derived.Test.YtgedcfgmfhlkdaaDoorKMath
set_option linter.unusedVariables false
set_option linter.unusedSimpArgs false
namespace Go.Proofs.YtgedcfgmfhlkdaaDoor
open Go.RowKit
/-- The days of months, as the program's table lays them. -/
def lens : List Int := [31, 28, 31, 30, 31, 30, 31, 31, 30, 31, 30, 31]
/-- A block of just these numbers, of whatever mark. -/
def Tabs (w : World) : Prop := ∃ T fr, w.heap[0]? = some (.cells (lens.map fun z => Value.int .i64 z).toArray T fr)
theorem Tabs.lt {w : World} : Tabs w → 0 < w.heap.size | ⟨_, _, h⟩ => (Array.getElem?_eq_some_iff.1 h).1
theorem Tabs.of {w w' : World} (e : w'.heap[0]? = w.heap[0]?) : Tabs w → Tabs w' | ⟨T, fr, h⟩ => ⟨T, fr, e.trans h⟩
theorem Tabs.below {B : Nat} {w w' : World} (h : Tabs w) (hB : 0 < B) (hb : Below B w w') : Tabs w' := h.of (hb.block 0 hB)
theorem Tabs.next {w w' : World} (h : Tabs w) (hb : Below w.heap.size w w') : Tabs w' := h.below h.lt hb
theorem Tabs.alloc {w : World} (h : Tabs w) (o : Obj) : Tabs (w.alloc o) := h.next ((Below.refl _ w).alloc (Nat.le_refl _) o)
theorem Tabs.drew {w : World} (h : Tabs w) : Tabs w.drew := h
theorem Tabs.drewN {w : World} (h : Tabs w) (n : Nat) : Tabs (w.drewN n) := h
theorem Tabs.cell {w : World} (h : Tabs w) (k : Nat) (z : Int) (hz : lens[k]? = some z) : w.cell? ⟨0, k, none⟩ = some (.int .i64 z) := by
  obtain ⟨T, fr, h⟩ := h
  rw [cell_of_row w 0 k _ _ _ h]
  simp [hz]
theorem leap_any (y : Int) (w : World) :
    Calls Tryd.prog 75 #[.int .i64 y] w fun e w' => e = .returned (.bool (leap y)) ∧ w = w' := by
  unfold leap
  cases h4 : (y.tmod 4 == 0) <;> cases h100 : (y.tmod 100 != 0) <;> cases h400 : (y.tmod 400 == 0)
  all_goals
    go_enter Tryd.func75, Tryd.ntmps75
    go_wp2
    go_ret
    exact ⟨rfl, rfl⟩
theorem days_any (y m : Int) (w : World) (hT : Tabs w) :
    Calls Tryd.prog 65 #[.int .i64 y, .int .i64 m] w fun e w' => e = .returned (.int .i64 (dlen y m)) ∧ w = w' := by
  by_cases h1 : m < 1
  · rw [show dlen y m = 0 by unfold dlen; rw [if_pos (.inl h1)]]
    go_enter Tryd.func65, Tryd.ntmps65
    go_wp2
    go_ret
    exact ⟨rfl, rfl⟩
  by_cases h12 : 12 < m
  · rw [show dlen y m = 0 by unfold dlen; rw [if_pos (.inr h12)]]
    go_enter Tryd.func65, Tryd.ntmps65
    go_wp2
    go_ret
    exact ⟨rfl, rfl⟩
  have hd := dlen_in (y := y) (m := m) (by omega) (by omega)
  rw [hd]
  unfold lp mlen
  have c0 := hT.cell 0 31 rfl
  have c1 := hT.cell 1 28 rfl
  have c2 := hT.cell 2 31 rfl
  have c3 := hT.cell 3 30 rfl
  have c4 := hT.cell 4 31 rfl
  have c5 := hT.cell 5 30 rfl
  have c6 := hT.cell 6 31 rfl
  have c7 := hT.cell 7 31 rfl
  have c8 := hT.cell 8 30 rfl
  have c9 := hT.cell 9 31 rfl
  have c10 := hT.cell 10 30 rfl
  have c11 := hT.cell 11 31 rfl
  clear hT hd
  rcases month_cases (m := m) (by omega) (by omega) with rfl | rfl | rfl | rfl | rfl | rfl | rfl | rfl | rfl | rfl | rfl | rfl
  all_goals cases hl : leap y
  all_goals
    clear h1 h12
    go_enter Tryd.func65, Tryd.ntmps65
    go_wp2_with (go_at_call 75; refine (leap_any _ _).mono ?_; rintro e w' ⟨rfl, rfl⟩; try rw [hl])
    go_ret
    exact ⟨rfl, rfl⟩
theorem leapsTo_any (y : Int) (h0 : 0 ≤ y) (h1 : y ≤ 20000) (w : World) :
    Calls Tryd.prog 66 #[.int .i64 y] w fun e w' => e = .returned (.int .i64 (leapsTo y)) ∧ w = w' := by
  go_enter Tryd.func66, Tryd.ntmps66
  go_wp2
  go_ret
  refine ⟨congrArg Ending.returned (congrArg (Value.int IntKind.i64) ?_), rfl⟩
  unfold leapsTo
  try simp only [wrap64, Int.tdiv_eq_ediv_of_nonneg h0]
  try omega
theorem daysAhead_any (y : Int) (h0 : 1970 ≤ y) (h1 : y ≤ 20000) (w : World) :
    Calls Tryd.prog 50 #[.int .i64 y] w fun e w' => e = .returned (.int .i64 (ahead y)) ∧ w = w' := by
  have hn : leapsTo 1969 = 477 := by decide
  have hb : 0 ≤ leapsTo (y - 1) ∧ leapsTo (y - 1) ≤ 20000 := by unfold leapsTo; omega
  have hc1 := leapsTo_any (y - 1) (by omega) (by omega)
  have hc2 := leapsTo_any 1969 (by omega) (by omega)
  rw [hn] at hc2
  unfold ahead
  obtain ⟨L, hL⟩ : ∃ L, L = leapsTo (y - 1) := ⟨_, rfl⟩
  rw [← hL] at hb hc1 ⊢
  have C1 := Lib.hid hc1
  have C2 := Lib.hid hc2
  clear hc1 hc2 hL
  go_enter Tryd.func50, Tryd.ntmps50
  go_wp2_with (go_at_call 66; first | ((with_reducible refine (C1.out _).mono ?_); rintro e w' ⟨rfl, rfl⟩) | ((with_reducible refine (C2.out _).mono ?_); rintro e w' ⟨rfl, rfl⟩))
  go_ret
  refine ⟨congrArg Ending.returned (congrArg (Value.int IntKind.i64) ?_), rfl⟩
  try simp only [wrap64]
  try omega
theorem isDay_any (n : Int) (w : World) :
    Calls Tryd.prog 52 #[.int .i64 n] w fun e w' => e = .returned (.bool (decide (0 ≤ n ∧ n ≤ 2932896))) ∧ w = w' := by
  by_cases h0 : 0 ≤ n <;> by_cases h1 : n ≤ 2932896
  all_goals
    go_enter Tryd.func52, Tryd.ntmps52
    go_wp2
    go_ret
    exact ⟨by simp [h0, h1], rfl⟩
/-- The weekday of a day; nought if it is none. -/
def wkB (n : Int) : Int := if 0 ≤ n ∧ n ≤ 2932896 then wkday n else 0
theorem weekday_any (n : Int) (w : World) :
    Calls Tryd.prog 30 #[.int .i64 n] w fun e w' => e = .returned (.int .i64 (wkB n)) ∧ w = w' := by
  unfold wkB
  by_cases h : 0 ≤ n ∧ n ≤ 2932896
  · rw [if_pos h]
    have hd : decide (0 ≤ n ∧ n ≤ 2932896) = true := decide_eq_true h
    obtain ⟨h0, h1⟩ := h
    go_enter Tryd.func30, Tryd.ntmps30
    go_wp2_with (go_at_call 52; refine (isDay_any _ _).mono ?_; rintro e w' ⟨rfl, rfl⟩; rw [hd])
    go_ret
    refine ⟨congrArg Ending.returned (congrArg (Value.int IntKind.i64) ?_), rfl⟩
    unfold wkday
    omega
  · rw [if_neg h]
    have hd : decide (0 ≤ n ∧ n ≤ 2932896) = false := decide_eq_false h
    go_enter Tryd.func30, Tryd.ntmps30
    go_wp2_with (go_at_call 52; refine (isDay_any _ _).mono ?_; rintro e w' ⟨rfl, rfl⟩; rw [hd])
    go_ret
    exact ⟨rfl, rfl⟩
end Go.Proofs.YtgedcfgmfhlkdaaDoor
