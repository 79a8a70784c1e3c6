/- Joined: KMath KLeaf KYear KMonths KScope KDay KStill KLift KOf. -/
import Derived.Test.YtbffmobjiiicoaaDoorProg
import Derived.WalkKit
import Derived.WalkLawsBesides
import Derived.Lib.Hide
import Derived.Below
import Derived.LoopTactic
import Derived.Laws.Rows
import Derived.Laws.Tables
import Derived.Deep.QuietTactic
import Derived.BigQuiet
import Derived.WalkSmall
import Derived.RangeFuncNested
import Derived.RangeFuncBound
import Derived.RangeFuncCalls
import Derived.RangeFuncLeaves
import Derived.RangeFuncBox
import Derived.Shelf.Abstract
import Derived.Shelf.RegionOpen
import Derived.OwnWalkIn
import Derived.TacticsInMore
import Derived.LoopNIn
import Derived.LoopIn
import Derived.ControlIn
import Derived.Scope
import Derived.WalkMore
import Derived.Deep.RegionHeld3
import Derived.Deep.RegionWith
import Derived.Laws.EntriesVeiled
import Derived.StillTail
import Derived.StillTactics
import Derived.OrdersIn
import Derived.TacticsIn
import Derived.OrdersHeld
import Derived.RangeFuncIn
section
/- The calendar as numbers: leap years, months, days since 1970. -/
namespace Go.Proofs.YtbffmobjiiicoaaDoor
def leap (y : Int) : Bool := (y.tmod 4 == 0) && ((y.tmod 100 != 0) || (y.tmod 400 == 0))
/-- The days of the months in a year that is no leap year. -/
def mlen (m : Int) : Int := if m = 4 ∨ m = 6 ∨ m = 9 ∨ m = 11 then 30 else if m = 2 then 28 else 31
def dlen (y m : Int) : Int := if m < 1 ∨ 12 < m then 0 else if m = 2 ∧ leap y = true then 29 else mlen m
/-- The days of a year ahead of a month: in one that is no leap year. -/
def cum (m : Int) : Int :=
  if m ≤ 1 then 0 else if m = 2 then 31 else if m = 3 then 59 else if m = 4 then 90 else if m = 5 then 120 else if m = 6 then 151 else if m = 7 then 181
  else if m = 8 then 212 else if m = 9 then 243 else if m = 10 then 273 else if m = 11 then 304 else if m = 12 then 334 else 365
def lp (y : Int) : Int := if leap y then 1 else 0
def bef (y m : Int) : Int := if 3 ≤ m then cum m + lp y else cum m
def leapsTo (y : Int) : Int := y / 4 - y / 100 + y / 400
def ahead (y : Int) : Int := 365 * (y - 1970) + leapsTo (y - 1) - 477
def May (y m d : Int) : Prop := 1970 ≤ y ∧ y ≤ 9999 ∧ 1 ≤ m ∧ m ≤ 12 ∧ 1 ≤ d ∧ d ≤ dlen y m
instance (y m d : Int) : Decidable (May y m d) := by unfold May; infer_instance
def dayOf (y m d : Int) : Int := ahead y + bef y m + d - 1
def IsDate (n y m d : Int) : Prop := May y m d ∧ n = dayOf y m d
instance (n y m d : Int) : Decidable (IsDate n y m d) := by unfold IsDate; infer_instance
def wkday (n : Int) : Int := (n + 3) % 7 + 1
theorem leap_pos {y : Int} (h : 0 ≤ y) : leap y = true ↔ y % 4 = 0 ∧ (y % 100 ≠ 0 ∨ y % 400 = 0) := by
  unfold leap
  rw [Int.tmod_eq_emod_of_nonneg h, Int.tmod_eq_emod_of_nonneg h, Int.tmod_eq_emod_of_nonneg h]
  simp
theorem lp_01 (y : Int) : lp y = 0 ∨ lp y = 1 := by unfold lp; split <;> simp
theorem lp_le (y : Int) : 0 ≤ lp y ∧ lp y ≤ 1 := by rcases lp_01 y with h | h <;> omega
theorem lp_leap {y : Int} (h : leap y = true) : lp y = 1 := by simp [lp, h]
theorem lp_no {y : Int} (h : leap y = false) : lp y = 0 := by simp [lp, h]
theorem leaps_succ {y : Int} (h : 1 ≤ y) : leapsTo y = leapsTo (y - 1) + lp y := by
  unfold leapsTo lp
  by_cases hl : leap y = true
  · rw [if_pos hl]; have := (leap_pos (by omega)).1 hl; omega
  · rw [if_neg hl]; have := mt (leap_pos (y := y) (by omega)).2 hl; omega
theorem ahead_succ {y : Int} (h : 1 ≤ y) : ahead (y + 1) = ahead y + 365 + lp y := by
  unfold ahead
  have := leaps_succ h
  rw [show y + 1 - 1 = y by omega]; omega
theorem ahead_1970 : ahead 1970 = 0 := by decide
theorem ahead_10000 : ahead 10000 = 2932897 := by decide
theorem leaps_mono {a b : Int} (hab : a ≤ b) : leapsTo a ≤ leapsTo b := by
  unfold leapsTo
  have : ∀ c : Int, c / 4 - c / 100 + c / 400 = c / 4 - (c / 4) / 25 + (c / 4) / 100 := by intro c; omega
  rw [this, this]
  have h4 : a / 4 ≤ b / 4 := by omega
  generalize a / 4 = p at *
  generalize b / 4 = q at *
  omega
theorem ahead_mono {a b : Int} (h : a + 1 ≤ b) : ahead a + 365 ≤ ahead b := by
  unfold ahead
  have := leaps_mono (a := a - 1) (b := b - 1) (by omega)
  omega
theorem ahead_le {a b : Int} (h : a ≤ b) : ahead a ≤ ahead b := by
  unfold ahead
  have := leaps_mono (a := a - 1) (b := b - 1) (by omega)
  omega
theorem month_cases {m : Int} (h1 : 1 ≤ m) (h2 : m ≤ 12) : m = 1 ∨ m = 2 ∨ m = 3 ∨ m = 4 ∨ m = 5 ∨ m = 6 ∨ m = 7 ∨ m = 8 ∨ m = 9 ∨ m = 10 ∨ m = 11 ∨ m = 12 := by omega
theorem dlen_in {y m : Int} (h1 : 1 ≤ m) (h2 : m ≤ 12) : dlen y m = if m = 2 then 28 + lp y else mlen m := by
  unfold dlen lp
  rw [if_neg (by omega)]
  by_cases h : m = 2
  · subst h
    cases leap y <;> simp [mlen]
  · simp [h]
theorem dlen_bounds {y m : Int} : 0 ≤ dlen y m ∧ dlen y m ≤ 31 := by
  unfold dlen mlen
  split
  · omega
  · split
    · omega
    · split
      · omega
      · split <;> omega
theorem dlen_ge {y m : Int} (h1 : 1 ≤ m) (h2 : m ≤ 12) : 28 ≤ dlen y m := by
  rw [dlen_in h1 h2]
  have := lp_le y
  by_cases h : m = 2
  · rw [if_pos h]; omega
  · rw [if_neg h]; unfold mlen; rw [if_neg h]; split <;> omega
theorem bef_succ {y m : Int} (h1 : 1 ≤ m) (h2 : m ≤ 12) : bef y (m + 1) = bef y m + dlen y m := by
  rw [dlen_in h1 h2]
  rcases month_cases h1 h2 with rfl | rfl | rfl | rfl | rfl | rfl | rfl | rfl | rfl | rfl | rfl | rfl <;> simp [bef, cum, mlen] <;> omega
theorem bef_one (y : Int) : bef y 1 = 0 := by simp [bef, cum]
theorem bef_13 (y : Int) : bef y 13 = 365 + lp y := by simp [bef, cum]
theorem bef_mono {y a b : Int} (ha : 1 ≤ a) (hab : a + 1 ≤ b) (hb : b ≤ 13) : bef y a + dlen y a ≤ bef y b := by
  obtain ⟨k, rfl⟩ : ∃ k : Nat, b = a + 1 + k := ⟨(b - (a + 1)).toNat, by omega⟩
  clear hab
  induction k with
  | zero => rw [Int.natCast_zero, Int.add_zero, bef_succ ha (by omega)]; omega
  | succ k ih =>
    have h := ih (by omega)
    have := bef_succ (y := y) (m := a + 1 + k) (by omega) (by omega)
    have hd := dlen_bounds (y := y) (m := a + 1 + k)
    rw [show a + 1 + ((k + 1 : Nat) : Int) = a + 1 + k + 1 by omega, this]; omega
theorem bef_bounds {y m : Int} (h1 : 1 ≤ m) (h2 : m ≤ 13) : 0 ≤ bef y m ∧ bef y m ≤ 366 := by
  have := lp_le y
  constructor
  · by_cases h : m = 1
    · rw [h, bef_one]; omega
    · have := bef_mono (y := y) (a := 1) (b := m) (by omega) (by omega) h2
      rw [bef_one] at this
      have := dlen_bounds (y := y) (m := 1)
      omega
  · by_cases h : m = 13
    · rw [h, bef_13]; omega
    · have := bef_mono (y := y) (a := m) (b := 13) (by omega) (by omega) (by omega)
      rw [bef_13] at this
      have := dlen_bounds (y := y) (m := m)
      omega
/-- A date's place in its year. -/
theorem in_year {y m d : Int} (h : May y m d) : ahead y ≤ dayOf y m d ∧ dayOf y m d < ahead (y + 1) := by
  obtain ⟨h1, h2, h3, h4, h5, h6⟩ := h
  have a := ahead_succ (y := y) (by omega)
  have b := bef_bounds (y := y) (m := m) (by omega) (by omega)
  have c := bef_mono (y := y) (a := m) (b := 13) (by omega) (by omega) (by omega)
  rw [bef_13] at c
  unfold dayOf
  omega
theorem day_bounds {y m d : Int} (h : May y m d) : 0 ≤ dayOf y m d ∧ dayOf y m d ≤ 2932896 := by
  have := in_year h
  have a := ahead_le (a := 1970) (b := y) h.1
  have b := ahead_le (a := y + 1) (b := 10000) (by have := h.2.1; omega)
  rw [ahead_1970] at a
  rw [ahead_10000] at b
  omega
/-- A day has one date. -/
theorem IsDate.unique {n y m d y' m' d' : Int} (h : IsDate n y m d) (h' : IsDate n y' m' d') : y = y' ∧ m = m' ∧ d = d' := by
  obtain ⟨hm, he⟩ := h
  obtain ⟨hm', he'⟩ := h'
  have a := in_year hm
  have a' := in_year hm'
  have hy : y = y' := by
    rcases Int.lt_trichotomy y y' with hl | rfl | hl
    · have := ahead_le (a := y + 1) (b := y') (by omega); omega
    · rfl
    · have := ahead_le (a := y' + 1) (b := y) (by omega); omega
  subst hy
  obtain ⟨h1, h2, h3, h4, h5, h6⟩ := hm
  obtain ⟨h1', h2', h3', h4', h5', h6'⟩ := hm'
  unfold dayOf at he he'
  have hmm : m = m' := by
    rcases Int.lt_trichotomy m m' with hl | rfl | hl
    · have := bef_mono (y := y) (a := m) (b := m') (by omega) (by omega) (by omega); omega
    · rfl
    · have := bef_mono (y := y) (a := m') (b := m) (by omega) (by omega) (by omega); omega
  subst hmm
  exact ⟨rfl, rfl, by omega⟩
/-- The date of a day, found by its year and month. -/
theorem isDate_of {n y m : Int} (hy0 : 1970 ≤ y) (hy1 : y ≤ 9999) (hm0 : 1 ≤ m) (hm1 : m ≤ 12) (h0 : ahead y + bef y m ≤ n) (h1 : n < ahead y + bef y m + dlen y m) : IsDate n y m (n - ahead y - bef y m + 1) :=
  ⟨⟨hy0, hy1, hm0, hm1, by omega, by omega⟩, by unfold dayOf; omega⟩
/-- The year that follows a day by 366 is not behind its own. -/
theorem year_start {n : Int} (h : 0 ≤ n) (h1 : n ≤ 2932896) : ahead (1970 + n / 366) ≤ n := by
  unfold ahead leapsTo
  omega
theorem year_end {y n : Int} (h : ahead y ≤ n) (h1 : n ≤ 2932896) : y ≤ 9999 := by
  by_cases hy : y ≤ 9999
  · exact hy
  · have := ahead_le (a := 10000) (b := y) (by omega)
    rw [ahead_10000] at this; omega
theorem wkday_bounds (n : Int) : 1 ≤ wkday n ∧ wkday n ≤ 7 := by unfold wkday; omega
/-- The next day's date: in the month, at the next one's beginning, at the next year's. -/
theorem next_in {n y m d : Int} (h : IsDate n y m d) (hd : d + 1 ≤ dlen y m) : IsDate (n + 1) y m (d + 1) := by
  obtain ⟨⟨h1, h2, h3, h4, h5, h6⟩, e⟩ := h
  exact ⟨⟨h1, h2, h3, h4, by omega, hd⟩, by rw [e]; unfold dayOf; omega⟩
theorem next_month {n y m d : Int} (h : IsDate n y m d) (hd : dlen y m < d + 1) (hm : m + 1 ≤ 12) : IsDate (n + 1) y (m + 1) 1 := by
  obtain ⟨⟨h1, h2, h3, h4, h5, h6⟩, e⟩ := h
  have hg := dlen_ge (y := y) (m := m + 1) (by omega) hm
  have hs := bef_succ (y := y) h3 h4
  exact ⟨⟨h1, h2, by omega, hm, by omega, by omega⟩, by rw [e]; unfold dayOf; rw [hs]; omega⟩
theorem next_year {n y m d : Int} (h : IsDate n y m d) (hn : n < 2932896) (hd : dlen y m < d + 1) (hm : 12 < m + 1) : IsDate (n + 1) (y + 1) 1 1 := by
  obtain ⟨⟨h1, h2, h3, h4, h5, h6⟩, e⟩ := h
  obtain rfl : m = 12 := by omega
  have hs := bef_succ (y := y) h3 h4
  have hb := bef_13 y
  have ha := ahead_succ (y := y) (by omega)
  rw [show (12 : Int) + 1 = 13 from rfl] at hs
  have he : n + 1 = ahead (y + 1) := by rw [e]; unfold dayOf; omega
  have hy : y + 1 ≤ 9999 := by
    by_cases hc : y + 1 ≤ 9999
    · exact hc
    · obtain rfl : y = 9999 := by omega
      rw [show (9999 : Int) + 1 = 10000 from rfl, ahead_10000] at he; omega
  have hg := dlen_ge (y := y + 1) (m := 1) (by omega) (by omega)
  exact ⟨⟨by omega, hy, by omega, by omega, by omega, by omega⟩, by rw [he]; unfold dayOf; rw [bef_one]; omega⟩
end Go.Proofs.YtbffmobjiiicoaaDoor
end
section
/- Contracts of the small functions of package civil: Leap, Days, Check, leapsTo, daysAhead, yearOf, isDay, Weekday, isBelow. -/
set_option linter.unusedVariables false
set_option linter.unusedSimpArgs false
namespace Go.Proofs.YtbffmobjiiicoaaDoor
open Go.RowKit
/-- The days of months, as the program's table lays them. -/
def lens : List Int := [31, 28, 31, 30, 31, 30, 31, 31, 30, 31, 30, 31]
/-- A block of just these numbers, of whatever mark. -/
def Tabs (w : World) : Prop := ∃ T fr, w.heap[2]? = some (.cells (lens.map fun z => Value.int .i64 z).toArray T fr)
theorem Tabs.lt {w : World} : Tabs w → 2 < w.heap.size | ⟨_, _, h⟩ => (Array.getElem?_eq_some_iff.1 h).1
theorem Tabs.of {w w' : World} (e : w'.heap[2]? = w.heap[2]?) : Tabs w → Tabs w' | ⟨T, fr, h⟩ => ⟨T, fr, e.trans h⟩
theorem Tabs.below {B : Nat} {w w' : World} (h : Tabs w) (hB : 2 < B) (hb : Below B w w') : Tabs w' := h.of (hb.block 2 hB)
theorem Tabs.next {w w' : World} (h : Tabs w) (hb : Below w.heap.size w w') : Tabs w' := h.below h.lt hb
theorem Tabs.alloc {w : World} (h : Tabs w) (o : Obj) : Tabs (w.alloc o) := h.next ((Below.refl _ w).alloc (Nat.le_refl _) o)
theorem Tabs.drew {w : World} (h : Tabs w) : Tabs w.drew := h
theorem Tabs.drewN {w : World} (h : Tabs w) (n : Nat) : Tabs (w.drewN n) := h
theorem Tabs.cell {w : World} (h : Tabs w) (k : Nat) (z : Int) (hz : lens[k]? = some z) : w.cell? ⟨2, k, none⟩ = some (.int .i64 z) := by
  obtain ⟨T, fr, h⟩ := h
  rw [cell_of_row w 2 k _ _ _ h]
  simp [hz]
theorem leap_any (y : Int) (w : World) :
    Calls Tryd.prog 95 #[.int .i64 y] w fun e w' => e = .returned (.bool (leap y)) ∧ w = w' := by
  unfold leap
  cases h4 : (y.tmod 4 == 0) <;> cases h100 : (y.tmod 100 != 0) <;> cases h400 : (y.tmod 400 == 0)
  all_goals
    go_enter Tryd.func95, Tryd.ntmps95
    go_wp2
    go_ret
    exact ⟨rfl, rfl⟩
theorem days_any (y m : Int) (w : World) (hT : Tabs w) :
    Calls Tryd.prog 84 #[.int .i64 y, .int .i64 m] w fun e w' => e = .returned (.int .i64 (dlen y m)) ∧ w = w' := by
  by_cases h1 : m < 1
  · rw [show dlen y m = 0 by unfold dlen; rw [if_pos (.inl h1)]]
    go_enter Tryd.func84, Tryd.ntmps84
    go_wp2
    go_ret
    exact ⟨rfl, rfl⟩
  by_cases h12 : 12 < m
  · rw [show dlen y m = 0 by unfold dlen; rw [if_pos (.inr h12)]]
    go_enter Tryd.func84, Tryd.ntmps84
    go_wp2
    go_ret
    exact ⟨rfl, rfl⟩
  have hd := dlen_in (y := y) (m := m) (by omega) (by omega)
  rw [hd]
  unfold lp mlen
  have c0 := hT.cell 0 31 rfl
  have c1 := hT.cell 1 28 rfl
  have c2 := hT.cell 2 31 rfl
  have c3 := hT.cell 3 30 rfl
  have c4 := hT.cell 4 31 rfl
  have c5 := hT.cell 5 30 rfl
  have c6 := hT.cell 6 31 rfl
  have c7 := hT.cell 7 31 rfl
  have c8 := hT.cell 8 30 rfl
  have c9 := hT.cell 9 31 rfl
  have c10 := hT.cell 10 30 rfl
  have c11 := hT.cell 11 31 rfl
  clear hT hd
  rcases month_cases (m := m) (by omega) (by omega) with rfl | rfl | rfl | rfl | rfl | rfl | rfl | rfl | rfl | rfl | rfl | rfl
  all_goals cases hl : leap y
  all_goals
    clear h1 h12
    go_enter Tryd.func84, Tryd.ntmps84
    go_wp2_with (go_at_call 95; refine (leap_any _ _).mono ?_; rintro e w' ⟨rfl, rfl⟩; try rw [hl])
    go_ret
    exact ⟨rfl, rfl⟩
theorem leapsTo_any (y : Int) (h0 : 0 ≤ y) (h1 : y ≤ 20000) (w : World) :
    Calls Tryd.prog 85 #[.int .i64 y] w fun e w' => e = .returned (.int .i64 (leapsTo y)) ∧ w = w' := by
  go_enter Tryd.func85, Tryd.ntmps85
  go_wp2
  go_ret
  refine ⟨congrArg Ending.returned (congrArg (Value.int IntKind.i64) ?_), rfl⟩
  unfold leapsTo
  try simp only [wrap64, Int.tdiv_eq_ediv_of_nonneg h0]
  try omega
theorem daysAhead_any (y : Int) (h0 : 1970 ≤ y) (h1 : y ≤ 20000) (w : World) :
    Calls Tryd.prog 70 #[.int .i64 y] w fun e w' => e = .returned (.int .i64 (ahead y)) ∧ w = w' := by
  have hn : leapsTo 1969 = 477 := by decide
  have hb : 0 ≤ leapsTo (y - 1) ∧ leapsTo (y - 1) ≤ 20000 := by unfold leapsTo; omega
  have hc1 := leapsTo_any (y - 1) (by omega) (by omega)
  have hc2 := leapsTo_any 1969 (by omega) (by omega)
  rw [hn] at hc2
  unfold ahead
  obtain ⟨L, hL⟩ : ∃ L, L = leapsTo (y - 1) := ⟨_, rfl⟩
  rw [← hL] at hb hc1 ⊢
  have C1 := Lib.hid hc1
  have C2 := Lib.hid hc2
  clear hc1 hc2 hL
  go_enter Tryd.func70, Tryd.ntmps70
  go_wp2_with (go_at_call 85; first | ((with_reducible refine (C1.out _).mono ?_); rintro e w' ⟨rfl, rfl⟩) | ((with_reducible refine (C2.out _).mono ?_); rintro e w' ⟨rfl, rfl⟩))
  go_ret
  refine ⟨congrArg Ending.returned (congrArg (Value.int IntKind.i64) ?_), rfl⟩
  try simp only [wrap64]
  try omega
theorem isDay_any (n : Int) (w : World) :
    Calls Tryd.prog 87 #[.int .i64 n] w fun e w' => e = .returned (.bool (decide (0 ≤ n ∧ n ≤ 2932896))) ∧ w = w' := by
  by_cases h0 : 0 ≤ n <;> by_cases h1 : n ≤ 2932896
  all_goals
    go_enter Tryd.func87, Tryd.ntmps87
    go_wp2
    go_ret
    exact ⟨by simp [h0, h1], rfl⟩
theorem isBelow_any (n k : Int) (w : World) :
    Calls Tryd.prog 99 #[.int .i64 n, .int .i64 k] w fun e w' => e = .returned (.bool (decide (0 ≤ n ∧ n < k))) ∧ w = w' := by
  by_cases h0 : 0 ≤ n <;> by_cases h1 : n < k
  all_goals
    go_enter Tryd.func99, Tryd.ntmps99
    go_wp2
    go_ret
    exact ⟨by simp [h0, h1], rfl⟩
/-- The weekday of a day; nought if it is none. -/
def wkB (n : Int) : Int := if 0 ≤ n ∧ n ≤ 2932896 then wkday n else 0
theorem weekday_any (n : Int) (w : World) :
    Calls Tryd.prog 74 #[.int .i64 n] w fun e w' => e = .returned (.int .i64 (wkB n)) ∧ w = w' := by
  unfold wkB
  by_cases h : 0 ≤ n ∧ n ≤ 2932896
  · rw [if_pos h]
    have hd : decide (0 ≤ n ∧ n ≤ 2932896) = true := decide_eq_true h
    obtain ⟨h0, h1⟩ := h
    go_enter Tryd.func74, Tryd.ntmps74
    go_wp2_with (go_at_call 87; refine (isDay_any _ _).mono ?_; rintro e w' ⟨rfl, rfl⟩; rw [hd])
    go_ret
    refine ⟨congrArg Ending.returned (congrArg (Value.int IntKind.i64) ?_), rfl⟩
    unfold wkday
    omega
  · rw [if_neg h]
    have hd : decide (0 ≤ n ∧ n ≤ 2932896) = false := decide_eq_false h
    go_enter Tryd.func74, Tryd.ntmps74
    go_wp2_with (go_at_call 87; refine (isDay_any _ _).mono ?_; rintro e w' ⟨rfl, rfl⟩; rw [hd])
    go_ret
    exact ⟨rfl, rfl⟩
end Go.Proofs.YtbffmobjiiicoaaDoor
end
section
/- Contracts: yearOf, Check. -/
set_option linter.unusedVariables false
set_option linter.unusedSimpArgs false
namespace Go.Proofs.YtbffmobjiiicoaaDoor
open Go.RowKit
theorem below_drewN {B : Nat} {w X : World} (h : Below B w X) (n : Nat) : Below B w (X.drewN n) := ⟨h.os, h.tape, h.output, h.size, h.block⟩
theorem yearOf_any (n : Int) (h0 : 0 ≤ n) (h1 : n ≤ 2932896) (w : World) :
    Calls Tryd.prog 88 #[.int .i64 n] w fun e w' => (∃ y, 1970 ≤ y ∧ y ≤ 9999 ∧ ahead y ≤ n ∧ n < ahead (y + 1) ∧ e = .returned (.int .i64 y)) ∧ w = w' := by
  have hy := year_start h0 h1
  go_enter Tryd.func88, Tryd.ntmps88
  go_wp2
  go_loopw [3] (fun v wr => ∃ y : Int, v = .int .i64 y ∧ 1970 ≤ y ∧ ahead y ≤ n ∧ w = wr) (fun v _ => (10000 - intOf v).toNat)
  case atStart => exact ⟨1970 + n / 366, rfl, by omega, hy, rfl⟩
  case round =>
    obtain ⟨y, rfl, hy0, hya, rfl⟩ := hrel
    have hy9 := year_end hya h1
    have hc := daysAhead_any (y + 1) (by omega) (by omega)
    by_cases hlt : ahead (y + 1) ≤ n
    · have hy9' := year_end hlt h1
      obtain ⟨L, hL⟩ : ∃ L, L = ahead (y + 1) := ⟨_, rfl⟩
      rw [← hL] at hc hlt
      have HL := Lib.hid hL
      have HC := Lib.hid hc
      clear hL hc hya hy
      go_wp2_with (go_at_call 70; refine (HC.out _).mono ?_; rintro e w' ⟨rfl, rfl⟩)
      go_roundw
      case rel => exact ⟨y + 1, rfl, by omega, by rw [← HL.out]; exact hlt, trivial⟩
      all_goals (simp only [intOf]; omega)
    · obtain ⟨L, hL⟩ : ∃ L, L = ahead (y + 1) := ⟨_, rfl⟩
      rw [← hL] at hc hlt
      have HL := Lib.hid hL
      have HC := Lib.hid hc
      clear hL hc
      go_wp2_with (go_at_call 70; refine (HC.out _).mono ?_; rintro e w' ⟨rfl, rfl⟩)
      go_ret
      exact ⟨⟨y, hy0, hy9, hya, by rw [← HL.out]; omega, rfl⟩, rfl⟩
/-- Whether a date may be: 0, or the error. -/
def mayE (y m d : Int) : Int := if May y m d then 0 else 60
theorem may_iff {y m d : Int} : May y m d ↔ 1970 ≤ y ∧ y ≤ 9999 ∧ 1 ≤ d ∧ d ≤ dlen y m := by
  unfold May
  constructor
  · rintro ⟨h1, h2, h3, h4, h5, h6⟩; exact ⟨h1, h2, h5, h6⟩
  · rintro ⟨h1, h2, h5, h6⟩
    have : 1 ≤ m ∧ m ≤ 12 := by
      by_cases h : m < 1 ∨ 12 < m
      · unfold dlen at h6; rw [if_pos h] at h6; omega
      · omega
    exact ⟨h1, h2, this.1, this.2, h5, h6⟩
theorem mayE_no {y m d : Int} (h : ¬ May y m d) : mayE y m d = 60 := by unfold mayE; rw [if_neg h]
theorem mayE_yes {y m d : Int} (h : May y m d) : mayE y m d = 0 := by unfold mayE; rw [if_pos h]
theorem check_any (y m d : Int) (w : World) (hT : Tabs w) :
    Calls Tryd.prog 69 #[.agg #[.int .i64 y, .int .i64 m, .int .i64 d]] w fun e w' => e = .returned (.int .i64 (mayE y m d)) ∧ Below w.heap.size w w' := by
  by_cases hy0 : y < 1970
  · rw [mayE_no (by rw [may_iff]; omega)]
    go_enter Tryd.func69, Tryd.ntmps69
    go_wp2
    go_ret
    exact ⟨rfl, (Below.refl _ w).alloc (Nat.le_refl _) _⟩
  by_cases hy1 : 9999 < y
  · rw [mayE_no (by rw [may_iff]; omega)]
    go_enter Tryd.func69, Tryd.ntmps69
    go_wp2
    go_ret
    exact ⟨rfl, (Below.refl _ w).alloc (Nat.le_refl _) _⟩
  by_cases hd0 : d < 1
  · rw [mayE_no (by rw [may_iff]; omega)]
    go_enter Tryd.func69, Tryd.ntmps69
    go_wp2
    go_quiet (fail)
    go_wp2
    go_ret
    exact ⟨rfl, below_drewN ((Below.refl _ w).alloc (Nat.le_refl _) _) _⟩
  have hc := fun n => days_any y m _ ((hT.alloc (.cells #[.int .i64 y, .int .i64 m, .int .i64 d] 110)).drewN n)
  have hg : decide (d < 1) = false := decide_eq_false hd0
  by_cases hd1 : dlen y m < d
  · rw [mayE_no (by rw [may_iff]; omega)]
    obtain ⟨L, hL⟩ : ∃ L, L = dlen y m := ⟨_, rfl⟩
    rw [← hL] at hc hd1
    have HC := Lib.hid hc
    clear hc hL
    go_enter Tryd.func69, Tryd.ntmps69
    go_wp2
    go_quiet ((go_at_call 84; exact Calls.quiet_of_same ((HC.out _).mono fun _ _ h => ⟨h.1, h.2.symm⟩)))
    go_wp2
    go_ret
    exact ⟨rfl, below_drewN ((Below.refl _ w).alloc (Nat.le_refl _) _) _⟩
  · rw [mayE_yes (by rw [may_iff]; omega)]
    obtain ⟨L, hL⟩ : ∃ L, L = dlen y m := ⟨_, rfl⟩
    rw [← hL] at hc hd1
    have HC := Lib.hid hc
    clear hc hL
    go_enter Tryd.func69, Tryd.ntmps69
    go_wp2
    go_quiet ((go_at_call 84; exact Calls.quiet_of_same ((HC.out _).mono fun _ _ h => ⟨h.1, h.2.symm⟩)))
    go_wp2
    go_ret
    exact ⟨rfl, below_drewN ((Below.refl _ w).alloc (Nat.le_refl _) _) _⟩
end Go.Proofs.YtbffmobjiiicoaaDoor
end
section
/- The iterator monthsOf: the months of a year, each with the days ahead of it. -/
set_option linter.unusedVariables false
namespace Go.Proofs.YtbffmobjiiicoaaDoor
open Go.RowKit Go.Shelf
attribute [local go_sem] Oper.semAt_some
abbrev Mon := { x : Int // 1 ≤ x ∧ x ≤ 12 }
def mon (j : Nat) : Mon := if h : j < 12 then ⟨j + 1, by omega⟩ else ⟨1, by omega⟩
theorem mon_val {j : Nat} (h : j < 12) : (mon j).1 = j + 1 := by unfold mon; rw [dif_pos h]
theorem mon_all (x : Mon) : ∃ j, j < 12 ∧ mon j = x := ⟨(x.1 - 1).toNat, by have := x.2; omega, Subtype.ext (by rw [mon_val (by have := x.2; omega)]; have := x.2; omega)⟩
def upto {α : Type} (f : Nat → α) (k : Nat) : List α := (List.range k).map f
theorem upto_succ {α : Type} (f : Nat → α) (k : Nat) : upto f (k + 1) = upto f k ++ [f k] := by simp [upto, List.range_succ]
theorem upto_length {α : Type} (f : Nat → α) (k : Nat) : (upto f k).length = k := by simp [upto]
/-- What a round keeps: one block, and whatever lies below n₀. -/
structure KM (By n₀ : Nat) (W W' : World) : Prop where
  keep : W'.heap[By]? = W.heap[By]?
  below : Below n₀ W W'
theorem KM.refl (By n₀ : Nat) (W : World) : KM By n₀ W W := ⟨rfl, Below.refl _ _⟩
theorem KM.trans {By n₀ : Nat} {X Y Z : World} (h : KM By n₀ X Y) (k : KM By n₀ Y Z) : KM By n₀ X Z := ⟨k.keep.trans h.keep, h.below.trans k.below⟩
theorem KM.of {By n₀ : Nat} {X Y : World} (h : Below n₀ X Y) (hB : By < n₀) : KM By n₀ X Y := ⟨h.block By hB, h⟩
theorem KM.cell {By n₀ : Nat} {X Y : World} (h : KM By n₀ X Y) {v : Value} (hc : X.cell? ⟨By, 0, none⟩ = some v) : Y.cell? ⟨By, 0, none⟩ = some v := by
  unfold World.cell? at hc ⊢
  simp only at hc ⊢
  rw [h.keep]; exact hc
theorem kmB {By n₀ : Nat} {w : World} (hn : n₀ ≤ w.heap.size) (hB : By < w.heap.size) (W : World) (l : Nat) (o o' : Obj) (hl : w.heap.size ≤ l) (h : W.heap[l]? = some o) (h1 : o.isCells = false) (h2 : o.isWalk = false) : KM By n₀ W (W.putObj l o') :=
  ⟨World.putObj_heap_other (by omega), belowK_b hn W l o o' hl h h1 h2⟩
def encM (y : Int) (x : Mon) : Array Value := #[.int .i64 x.1, .int .i64 (bef y x.1)]
set_option maxRecDepth 100000 in
set_option maxHeartbeats 2000000 in
theorem months1_in (F : Fence) (n : Nat) (hF : ∀ f, F.fn f) (hro : F.round = none) (hd : F = Fence.wide) (hn : 1 ≤ n) (l By n₀ : Nat) (y : Int) (h0n : 2 < n₀) (J Jx : List Mon → World → Prop)
    (hY : ∀ pre x W, J pre W → pre.length < 12 → YieldAt F (n - 1) Tryd.prog l #[.int .i64 x.1, .int .i64 (bef y x.1)] W fun e W' =>
      (e = .returned (.bool true) ∧ J (pre ++ [x]) W' ∧ KM By n₀ W W') ∨ (e = .returned (.bool false) ∧ Jx (pre ++ [x]) W'))
    (W : World) (hBy : W.cell? ⟨By, 0, none⟩ = some (.int .i64 y)) (hT : Tabs W) (h0 : J [] W) :
    CallsIn F n Tryd.prog 86 #[.func (.yield l) #[] #[], .pointer (some ⟨By, 0, none⟩)] W fun e W' => (∃ v, e = .returned v) ∧
      ((∃ ys, ys = upto mon 12 ∧ J ys W') ∨ (∃ pre, (∃ k, k ≤ 12 ∧ pre = upto mon k) ∧ Jx pre W')) := by
  subst hd
  refine callsIn_of_wp Tryd.func86 rfl (hF _) ?_ hro
  simp only [Tryd.ntmps86, List.size_toArray, List.length_cons, List.length_nil, Nat.reduceAdd, Nat.reduceSub, Array.replicate_succ, Array.replicate_zero, List.push_toArray, List.append_toArray, List.nil_append, List.cons_append]
  gi_wp2
  gi_loopw [3, 4] (fun b i wr => ∃ k : Nat, k ≤ 12 ∧ i = .int .i64 (k + 1) ∧ b = .int .i64 (bef y (k + 1)) ∧ J (upto mon k) wr ∧ KM By n₀ W wr)
    (fun _ i _ => 13 - (intOf i).toNat)
  case atStart => exact ⟨0, Nat.zero_le _, rfl, by rw [Int.natCast_zero, Int.zero_add, bef_one], h0, KM.refl _ _ _⟩
  case round =>
    obtain ⟨k, hk, rfl, rfl, hJs, hnx⟩ := hrel
    by_cases hlt : k < 12
    · obtain ⟨fn, tmps, assign, body, hy, hR⟩ := hY _ (mon k) wr hJs (by rw [upto_length]; exact hlt)
      rw [mon_val hlt] at hy
      have hs := bef_succ (y := y) (m := k + 1) (by omega) (by omega)
      have hb1 := bef_bounds (y := y) (m := k + 1) (by omega) (by omega)
      have hb2 := bef_bounds (y := y) (m := k + 1 + 1) (by omega) (by omega)
      obtain ⟨b, hb⟩ : ∃ b, b = bef y (k + 1) := ⟨_, rfl⟩
      obtain ⟨b2, hb2e⟩ : ∃ b, b = bef y (k + 1 + 1) := ⟨_, rfl⟩
      obtain ⟨dl, hdl⟩ : ∃ b, b = dlen y (k + 1) := ⟨_, rfl⟩
      rw [← hb, ← hb2e, ← hdl] at hs
      rw [← hb] at hb1 hy ⊢
      rw [← hb2e] at hb2
      have HB2 := Lib.hid hb2e
      have HDL := Lib.hid hdl
      have HR := Lib.hid hR
      have HS := Lib.hid hs
      have HNX := Lib.hid hnx
      have HJ := Lib.hid hJs
      have hk9 : (k : Int) ≤ 11 := by omega
      clear hb2e hdl hb hR hs hnx hJs
      gi_wp2
      refine HR.out.mono ?_
      rintro e W3 (⟨rfl, hJ3, hk3⟩ | ⟨rfl, hJx3⟩)
      · have hW3 := HNX.out.trans hk3
        have hc := hW3.cell hBy
        have hda := days_any y (k + 1) W3 (hT.below h0n hW3.below)
        rw [← HDL.out] at hda
        have HDA := Lib.hid hda
        have HW3 := Lib.hid hW3
        have HJ3 := Lib.hid hJ3
        clear hda hW3 hk3 hJ3
        gi_wp2_with (gi_at_call 84; refine (callsIn_wide.2 HDA.out).mono ?_; rintro e w' ⟨rfl, rfl⟩)
        go_roundw
        case rel =>
          have hs := HS.out
          refine ⟨k + 1, by omega, by go_num, ?_, by rw [upto_succ]; exact HJ3.out, HW3.out⟩
          rw [← hs, show wrap64 b2 = b2 from by simp only [wrap64]; omega, HB2.out]
          simp
        case measure => simp [intOf]; omega
      · gi_wp2
        refine bodyPost_ret (results_none rfl _ _ _) rfl ?_
        exact ⟨⟨_, rfl⟩, .inr ⟨_, ⟨k + 1, by omega, (upto_succ _ _).symm⟩, hJx3⟩⟩
    · obtain rfl : k = 12 := by omega
      gi_wp2
      go_end0
      exact ⟨⟨_, rfl⟩, .inl ⟨_, rfl, hJs⟩⟩
theorem monthsOf_in (n : Nat) (y : Int) (w : World) :
    CallsIn Fence.wide n Tryd.prog 71 #[.int .i64 y] w fun e w' => e = .returned (.func (.func 86) #[] #[.pointer (some ⟨w.heap.size, 0, none⟩)]) ∧ w' = w.alloc (.cells #[.int .i64 y] 3) := by
  refine callsIn_of_wp Tryd.func71 rfl trivial ?_ rfl
  simp only [Tryd.ntmps71, List.size_toArray, List.length_cons, List.length_nil, Nat.reduceAdd, Nat.reduceSub, Array.replicate_succ, Array.replicate_zero, List.push_toArray, List.append_toArray, List.nil_append, List.cons_append]
  gi_wp2
  go_ret
  exact ⟨rfl, rfl⟩
theorem months_stopsK (n : Nat) (hn : 1 ≤ n) (By n₀ : Nat) (y : Int) (w0 : World) (h0n : 2 < n₀) (hb : n₀ ≤ w0.heap.size) (hBl : By < w0.heap.size) (hBy : w0.cell? ⟨By, 0, none⟩ = some (.int .i64 y)) (hT : Tabs w0) :
    SeqStopsK Fence.wide n Tryd.prog 86 #[.pointer (some ⟨By, 0, none⟩)] (encM y) (KM By n₀) (fun xs => xs = upto mon 12) (fun pre => ∃ k, k ≤ 12 ∧ pre = upto mon k) 12 w0 := by
  intro l J Jx W hW hJ hJx hY h0
  exact months1_in Fence.wide n (fun _ => trivial) rfl rfl hn l By n₀ y h0n J Jx hY W ((hW.cell (p := ⟨By, 0, none⟩) hBl).trans hBy) (hT.next hW) h0
theorem months_stops (n : Nat) (hn : 1 ≤ n) (By n₀ : Nat) (y : Int) (w0 : World) (hB : By < n₀) (h0n : 2 < n₀) (hb : n₀ ≤ w0.heap.size) (hBy : w0.cell? ⟨By, 0, none⟩ = some (.int .i64 y)) (hT : Tabs w0) :
    SeqStopsK Fence.wide n Tryd.prog 86 #[.pointer (some ⟨By, 0, none⟩)] (encM y) (Below n₀) (fun xs => xs = upto mon 12) (fun pre => ∃ k, k ≤ 12 ∧ pre = upto mon k) 12 w0 := by
  intro l J Jx W hW hJ hJx hY h0
  refine months_stopsK n hn By n₀ y w0 h0n hb (by omega) hBy hT l J Jx W hW hJ hJx (fun pre x W1 h1 h2 => ?_) h0
  obtain ⟨fn, tmps, assign, body, hy, hR⟩ := hY pre x W1 h1 h2
  refine ⟨fn, tmps, assign, body, hy, hR.mono ?_⟩
  rintro e W' (⟨h3, h4, h5⟩ | h)
  · exact .inl ⟨h3, h4, KM.of h5 hB⟩
  · exact .inr h
end Go.Proofs.YtbffmobjiiicoaaDoor
end
section
/- A scope (a function with a label) under a fence: as the library has it without one. -/
set_option linter.unusedVariables false
namespace Go.Proofs.YtbffmobjiiicoaaDoor
section
variable {F : Fence} {n : Nat} {P : Program} {Q : Exit → Act → World → Prop} {a : Act} {w : World} {b : Frame} {k : List Item} {cs : List Frame}
theorem stepR_scope {c : Code} : step P (lone (b.atR a (.code (.scope c) :: k)) cs w) = .next (lone (b.atR a (.code c :: .inScope c :: k)) cs w) :=
  step_lone_go (by simp [stepG, stepG.exec, Frame.atR])
theorem stepR_inScope {c : Code} : step P (lone (b.atR a (.inScope c :: k)) cs w) = .next (lone (b.atR a k) cs w) :=
  step_lone_go (by simp [stepG, stepG.exec, Frame.atR])
theorem wpIn_scope_straight {c : Code} (h : c.wpIn F n P (Exit.noGoto Q) a w) : (Code.scope c).wpIn F n P Q a w := by
  intro b k cs hro hb hr
  have h0 : (lone (b.atR a (.code (.scope c) :: k)) cs w).fenced P F := fenced_calm hb hr rfl
  obtain ⟨e, a₁, w₁, hq, harr⟩ := h b (.inScope c :: k) cs hro hb hr
  cases e with
  | normal => exact ⟨.normal, a₁, w₁, hq, .head h0 stepR_scope (StepsIn.trans harr (.one (fenced_calm hb hr rfl) stepR_inScope))⟩
  | exit id =>
    have hx : exitTo id (.inScope c :: k) = exitTo id k := by simp [exitTo]
    exact ⟨_, a₁, w₁, hq, fun k' hk => .head h0 stepR_scope (harr.1 k' (by rw [hx]; exact hk)),
      fun hr' hk => let ⟨k₁, h1, h2⟩ := harr.2 hr' (by rw [hx]; exact hk); ⟨k₁, h1, .head h0 stepR_scope h2⟩⟩
  | goto l => exact hq.elim
  | ret => exact ⟨_, a₁, w₁, hq, .of_steps (.one h0 stepR_scope) harr⟩
  | panic ch => exact ⟨_, a₁, w₁, hq, .of_steps (.one h0 stepR_scope) harr⟩
  | outgrown => exact ⟨_, a₁, w₁, hq, .of_steps (.one h0 stepR_scope) harr⟩
end
end Go.Proofs.YtbffmobjiiicoaaDoor
end
section
/- The contract of civil.Day. -/
set_option linter.unusedVariables false
set_option linter.unusedSimpArgs false
namespace Go.Proofs.YtbffmobjiiicoaaDoor
open Go.RowKit Go.Shelf
attribute [local go_sem] Oper.semAt_some
/-- What Day answers: the day, or nought and the error. -/
def dayE (y m d : Int) : Int := if May y m d then dayOf y m d else 0
theorem heap_old {W : World} {b : Nat} {x : Obj} (h : W.heap[b]? = some x) (o : Obj) : (W.alloc o).heap[b]? = some x := (Below.heap_alloc W o b (Array.getElem?_eq_some_iff.1 h).1).trans h
theorem day_no (y m d : Int) (w : World) (hT : Tabs w) (h : ¬ May y m d) :
    Calls Tryd.prog 47 #[.agg #[.int .i64 y, .int .i64 m, .int .i64 d]] w fun e w' => e = .returned (.tuple #[.int .i64 0, .int .i64 60]) ∧ Below w.heap.size w w' := by
  have hb0 := (Below.refl _ w).alloc (Nat.le_refl _) (.cells #[.int .i64 y, .int .i64 m, .int .i64 d] 110)
  have hc := check_any y m d _ (hT.alloc (.cells #[.int .i64 y, .int .i64 m, .int .i64 d] 110))
  rw [mayE_no h] at hc
  have HC := Lib.hid hc
  have HB := Lib.hid hb0
  clear hc hb0
  refine (callsIn_wide (n := 4)).1 ?_
  refine callsIn_of_wp_marks Tryd.func47 rfl trivial ?_ rfl
  simp only [Tryd.ntmps47, List.size_toArray, List.length_cons, List.length_nil, Nat.reduceAdd, Nat.reduceSub, Array.replicate_succ, Array.replicate_zero, List.push_toArray, List.append_toArray, List.nil_append, List.cons_append]
  gi_wp2
  refine wpIn_scope_straight (wpIn_seq ?_)
  gi_wp2_with (refine ⟨trivial, ?_⟩; gi_at_call 69; refine (callsIn_wide.2 HC.out).mono ?_; rintro e w' ⟨rfl, hB1⟩)
  rw [Exit.noGoto_ret]
  exact ⟨_, results_tmp2 rfl _ _ _, rfl, HB.out.trans (hB1.mono (by simp))⟩
set_option maxRecDepth 100000 in
set_option maxHeartbeats 2000000 in
theorem day_yes (y m d : Int) (w : World) (hT : Tabs w) (h : May y m d) :
    Calls Tryd.prog 47 #[.agg #[.int .i64 y, .int .i64 m, .int .i64 d]] w fun e w' => e = .returned (.tuple #[.int .i64 (dayOf y m d), .int .i64 0]) ∧ Below w.heap.size w w' := by
  have hb0 := (Below.refl _ w).alloc (Nat.le_refl _) (.cells #[.int .i64 y, .int .i64 m, .int .i64 d] 110)
  have hc := check_any y m d _ (hT.alloc (.cells #[.int .i64 y, .int .i64 m, .int .i64 d] 110))
  rw [mayE_yes h] at hc
  have hda := daysAhead_any y (by have := h.1; omega) (by have := h.2.1; omega)
  obtain ⟨L, hL⟩ : ∃ L, L = ahead y := ⟨_, rfl⟩
  rw [← hL] at hda
  have HC := Lib.hid hc
  have HB := Lib.hid hb0
  have hlb : 0 ≤ L ∧ L ≤ 2932896 := by
    have := in_year h
    have h2 := day_bounds h
    have := ahead_le (a := 1970) (b := y) h.1
    rw [ahead_1970] at this
    omega
  have hdb : 1 ≤ d ∧ d ≤ 31 := ⟨h.2.2.2.2.1, by have := h.2.2.2.2.2; have := dlen_bounds (y := y) (m := m); omega⟩
  have HM := Lib.hid (show 1 ≤ m ∧ m ≤ 12 from ⟨h.2.2.1, h.2.2.2.1⟩)
  have HLB := Lib.hid hlb
  have HL := Lib.hid hL
  have HDA := Lib.hid hda
  have HMAY := Lib.hid h
  clear hc hb0 hL hda h
  have z0 := heap_alloc_new w (.cells #[.int .i64 y, .int .i64 m, .int .i64 d] 110)
  have Z0 := Lib.hid z0
  clear z0
  refine (callsIn_wide (n := 4)).1 ?_
  refine callsIn_of_wp_marks Tryd.func47 rfl trivial ?_ rfl
  simp only [Tryd.ntmps47, List.size_toArray, List.length_cons, List.length_nil, Nat.reduceAdd, Nat.reduceSub, Array.replicate_succ, Array.replicate_zero, List.push_toArray, List.append_toArray, List.nil_append, List.cons_append]
  gi_wp2
  refine wpIn_scope_straight (wpIn_seq ?_)
  gi_wp2_with (first | (refine ⟨trivial, ?_⟩; gi_at_call 69; refine (callsIn_wide.2 HC.out).mono ?_; rintro e w1 ⟨rfl, hB1⟩; refine Hid.out ?_))
  refine Lib.hid ?_
  have hz1 := (hB1.block w.heap.size (by simp)).trans Z0.out
  have c0 := cell_of_row w1 w.heap.size 0 _ _ _ hz1
  have c2 := cell_of_row w1 w.heap.size 2 _ _ _ hz1
  have HB1 := Lib.hid (HB.out.trans (hB1.mono (by simp)))
  have HE1 := Lib.hid (show IntKind.i64.wrap (L + d) = L + d from by simp only [IntKind.wrap_i64, wrap64]; omega)
  have HE2 := Lib.hid (show IntKind.i64.wrap (L + d - 1) = L + d - 1 from by simp only [IntKind.wrap_i64, wrap64]; omega)
  have HZ1 := Lib.hid hz1
  clear Z0 hB1 hz1 HB
  gi_wp2_with (fail)
  refine wpIn_wide.2 ?_
  go_region_held3 (fun w' => w'.cell? ⟨w.heap.size, 0, none⟩ = some (.int .i64 y) ∧ w'.cell? ⟨w.heap.size, 2, none⟩ = some (.int .i64 d))
            (first
              | go_keep)
            (first
              | (go_at_call 70; ((with_reducible refine (HDA.out _).mono ?_); rintro e w' ⟨rfl, rfl⟩)))
  all_goals
    clear HDA HC c0 c2
    obtain ⟨hm1, hm2⟩ := HM.out
    have hL2 := HLB.out
    rw [HE1.out, HE2.out]
    have hD1 : (w1.alloc (.cells #[.int .i64 (L + d - 1)] 3)).drew.heap[w.heap.size]? = some (.cells #[.int .i64 y, .int .i64 m, .int .i64 d] 110) := heap_old HZ1.out _
    have hD2 : Boxed (w1.alloc (.cells #[.int .i64 (L + d - 1)] 3)).drew w1.heap.size 3 (.int .i64 (L + d - 1)) := Boxed.new w1 3 _
    have hD3 : (w1.alloc (.cells #[.int .i64 (L + d - 1)] 3)).drew.heap.size = w1.heap.size + 1 := by simp
    have hD4 : Below w.heap.size w (w1.alloc (.cells #[.int .i64 (L + d - 1)] 3)).drew := (HB1.out.alloc HB1.out.size _).drew
    have hlt1 : w.heap.size < w1.heap.size := (Array.getElem?_eq_some_iff.1 HZ1.out).1
    generalize (w1.alloc (.cells #[.int .i64 (L + d - 1)] 3)).drew = X at *
    generalize w1.heap.size = b4 at *
    have cy := cell_of_row X w.heap.size 0 _ _ _ hD1
    have HD1 := Lib.hid hD1
    have HD2 := Lib.hid hD2
    have HD4 := Lib.hid hD4
    clear hD1 hD2 hD4 HZ1 HB1 HE1 HE2
    gi_wp2
    refine wpIn_label ?_
    gi_wp2_with (refine ⟨trivial, ?_⟩; gi_at_call 71; refine (monthsOf_in _ _ _).mono ?_; rintro e w' ⟨rfl, rfl⟩)
    have hb4 := hD3
    have bY := Boxed.new X 3 (.int .i64 y)
    rw [hD3] at bY
    obtain ⟨X2, hX2⟩ : ∃ X2, X.alloc (.cells #[.int .i64 y] 3) = X2 := ⟨_, rfl⟩
    have hz2 : X2.heap.size = b4 + 2 := by rw [← hX2]; simp; omega
    have d1 : X2.heap[w.heap.size]? = some (.cells #[.int .i64 y, .int .i64 m, .int .i64 d] 110) := by rw [← hX2]; exact heap_old HD1.out _
    have d2 : Boxed X2 b4 3 (.int .i64 (L + d - 1)) := by rw [← hX2]; exact HD2.out.alloc _
    have d4 : Below w.heap.size w X2 := by rw [← hX2]; exact HD4.out.alloc HD4.out.size _
    have hT2 : Tabs X2 := hT.next d4
    have cm := cell_of_row X2 w.heap.size 1 _ _ _ d1
    rw [hX2] at bY ⊢
    clear HD1 HD2 HD4 cy hX2
    refine wpIn_rangeFunc_ownG rfl (by omega) (gf := 86) (lb := #[.pointer (some ⟨b4 + 1, 0, none⟩)]) rfl trivial (enters_of Tryd.func86 (by kernel_rfl) rfl)
      (months_stops _ (by omega) (b4 + 1) X2.heap.size y X2 (by omega) (by omega) (Nat.le_refl _) bY.cell hT2) belowK_t (belowK_b (Nat.le_refl _)) (Below.refl _ _) (fun _ => rfl)
      (fun pre W => (Boxed W b4 3 (.int .i64 (L + d - 1)) ∧ W.cell? ⟨w.heap.size, 1, none⟩ = some (.int .i64 m) ∧ ∀ x ∈ pre, x.1 ≠ m) ∧ Below w.heap.size w W)
      (fun c pre W => (Boxed W b4 3 (.int .i64 (L + d - 1 + bef y m)) ∧ c = .exit 0) ∧ Below w.heap.size w W)
      (OwnFrom.and (Own.from (fun s A B row hs hg hr => ⟨boxed_own b4 3 (fun _ : Unit => .int .i64 (L + d - 1)) () A B row hs.1 hg hr, cell_kept hs.2.1 hg hr, hs.2.2⟩) _) (ownFrom_below (Nat.le_refl _) (by omega)))
      (fun c => OwnFrom.and (Own.from (fun s A B row hs hg hr => ⟨boxed_own b4 3 (fun _ : Unit => .int .i64 (L + d - 1 + bef y m)) () A B row hs.1 hg hr, hs.2⟩) _) (ownFrom_below (Nat.le_refl _) (by omega)))
      ⟨⟨d2, cm, by simp⟩, d4⟩
      (fun x => { tmps := #[.agg #[.int .i64 y, .int .i64 m, .int .i64 d], .pointer (some ⟨w.heap.size, 0, none⟩), .int .i64 0, .int .i64 0, .pointer (some ⟨b4, 0, none⟩), .int .i64 x.1, .int .i64 (bef y x.1), .agg #[.int .i64 y, .int .i64 m, .int .i64 d], .int .i64 0, .bool false, .pointer (some ⟨w.heap.size, 0, none⟩), .int .i64 y, .int .i64 L, .pointer (some ⟨w.heap.size, 2, none⟩), .int .i64 d, .int .i64 (L + d), .int .i64 (L + d - 1), .pointer (some ⟨w.heap.size, 0, none⟩), .int .i64 y, .func (.func 86) #[] #[.pointer (some ⟨b4 + 1, 0, none⟩)], .int .i64 x.1, .int .i64 (bef y x.1), undef, undef, undef, undef, undef, undef, undef, undef], defers := [] }) ?assign ?body ?done ?stop
    case assign =>
      intro l x W K hK
      unfold encM
      gi_wp2
      exact hK
    case body =>
      rintro l pre x W ⟨⟨hbx, hcm, hne⟩, hB⟩ hlt
      have hx := x.2
      have hbb := bef_bounds (y := y) (m := x.1) (by omega) (by omega)
      have hbc := hbx.cell
      have hbf := hbx.frozen
      have HBX := Lib.hid hbx
      have HB := Lib.hid hB
      have HNE := Lib.hid hne
      obtain ⟨bx, hbe⟩ : ∃ b, b = bef y x.1 := ⟨_, rfl⟩
      rw [← hbe] at hbb ⊢
      have HBE := Lib.hid hbe
      clear hbx hB hne hbe hT2 hT d1 d2 d4 cm bY
      by_cases he : x.1 = m
      · have HE := Lib.hid he
        have hed : (x.1 == m) = true := by simp [he]
        clear he
        gi_wp2
        refine ⟨(KeepsOthers.setCell _ _ _).from _, ⟨?_, rfl⟩, HB.out.setCell (p := ⟨b4, 0, none⟩) (by simp; omega) _⟩
        rw [← HE.out, ← HBE.out]
        exact heap_setCell_same W b4 0 _ _ _ HBX.out
      · have hed : (x.1 == m) = false := by simp [he]
        have HE := Lib.hid he
        clear he
        gi_wp2
        refine ⟨KeepsFrom.refl _ _, Below.refl _ _, ⟨HBX.out, hcm, ?_⟩, HB.out⟩
        intro z hz
        rcases List.mem_append.1 hz with h | h
        · exact HNE.out z h
        · rw [List.mem_singleton.1 h]; exact HE.out
    case done =>
      rintro D ys W hD rfl ⟨⟨hbx, hcm, hne⟩, hB⟩ hK
      exfalso
      obtain ⟨j, hj, hjm⟩ := mon_all ⟨m, hm1, hm2⟩
      have := hne (mon j) (by simp [upto]; exact ⟨j, hj, rfl⟩)
      rw [hjm] at this
      exact this rfl
    case stop =>
      rintro D c pre W hD hpre ⟨⟨hbx, rfl⟩, hB⟩ hK
      have hbc := hbx.cell
      have hday : L + d - 1 + bef y m = dayOf y m d := by rw [HL.out]; unfold dayOf; omega
      rw [hday] at hbc
      clear hday hT2 hT d1 d2 d4 cm bY
      gi_wp2
      rw [Exit.noGoto_ret]
      refine ⟨by simp, .inl ⟨_, _, rfl, run_takeDeferred hK, ?_⟩⟩
      exact ⟨_, results_tmp2 rfl _ _ _, rfl, hB.trans (belowK_b (w := w) (Nat.le_refl _) _ D _ _ (by omega) hK rfl rfl)⟩
theorem day_any (y m d : Int) (w : World) (hT : Tabs w) :
    Calls Tryd.prog 47 #[.agg #[.int .i64 y, .int .i64 m, .int .i64 d]] w fun e w' => e = .returned (.tuple #[.int .i64 (dayE y m d), .int .i64 (mayE y m d)]) ∧ Below w.heap.size w w' := by
  unfold dayE mayE
  by_cases h : May y m d
  · rw [if_pos h, if_pos h]; exact day_yes y m d w hT h
  · rw [if_neg h, if_neg h]; exact day_no y m d w hT h
end Go.Proofs.YtbffmobjiiicoaaDoor
end
section
/- A region that draws its order, that only reads but for a tail that comes in one order (the call of a range's own body): in a fence that shuts nothing out. The library has it without a fence. -/
set_option linter.unusedVariables false
namespace Go.Proofs.YtbffmobjiiicoaaDoor
section
variable {F : Fence} {n : Nat} {P : Program} {ops : Array Oper} {Q : Exit → Act → World → Prop} {md : Region.Mode} {w : World}
/-- A fence that shuts nothing out, in a round or not. -/
structure Wide (F : Fence) (n : Nat) (P : Program) : Prop where
  fn : ∀ f, F.fn f
  depth : F.depth.isSome = false
  calls : ∀ {f : FuncId} {args : Array Value} {w : World} {R : Ending → World → Prop}, Calls P f args w R → CallsIn F (n - 1) P f args w R
theorem wide_plain (n : Nat) (P : Program) : Wide Fence.wide n P := ⟨fun _ => trivial, rfl, fun h => callsIn_wide.2 h⟩
theorem wide_round (n l : Nat) (P : Program) : Wide (Fence.wide.inRound l) n P := ⟨fun _ => trivial, rfl, fun h => CallsIn.inRound l (callsIn_wide.2 h)⟩
def noDefer (ops : List Oper) : Bool := ops.all fun o => match o.op with
  | .defer _ => false
  | _ => true
theorem noDefer_spec {ops : List Oper} (h : noDefer ops = true) {i : Nat} {o : Oper} (ho : ops.toArray[i]? = some o) (c : Call) : o.op ≠ .defer c := by
  intro e
  have hm : o ∈ ops := by
    have : ops[i]? = some o := by simpa using ho
    exact List.mem_of_getElem? this
  have := (List.all_eq_true.1 h) o hm
  rw [e] at this
  cases this
theorem opIn_of_still (hF : Wide F n P) {o : Oper} (hnd : ∀ c, o.op ≠ .defer c) {a : Act} {K : Act → Prop} {K' : Act → World → Prop} (h : ∀ a, K a → K' a w) (hh : o.still P a w K) : Oper.wpIn F n P o a w K' Q := by
  unfold Oper.still at hh
  unfold Oper.wpIn
  refine ⟨fun f _ => hF.fn f, ?_⟩
  rw [Oper.semAt_plain F _ _ hnd]
  generalize (execOp a.eval o).run P w = r at *
  cases r with
  | ok x w' =>
    cases x <;> simp only [Oper.stillUpon, Oper.uponIn] at hh ⊢
    case value v => obtain ⟨rfl, h2⟩ := hh; exact h _ h2
    case skip => obtain ⟨rfl, h2⟩ := hh; exact h _ h2
    case enter f args =>
      obtain ⟨rfl, v, hc, h2⟩ := hh
      refine ⟨(fun h => by rw [hF.depth] at h; cases h), (hF.calls hc).mono ?_⟩
      rintro e w'' ⟨rfl, rfl⟩
      exact h _ h2
  | halt x w' => exact hh.elim
theorem anOpIn_of_still (hF : Wide F n P) (hnd : ∀ (i : Nat) (o : Oper), ops[i]? = some o → ∀ c, o.op ≠ .defer c) {i : Nat} {a : Act} {K : Act → Prop} {K' : Act → World → Prop} (h : ∀ a, K a → K' a w) (hh : stOp P ops w i K a) : wpOpIn F n P ops Q i K' a w := by
  unfold stOp at hh
  unfold wpOpIn
  split
  · rename_i ho; simp only [ho] at hh; exact h _ hh
  · rename_i o ho
    simp only [ho] at hh
    split
    · rename_i hw; simp only [hw, if_true] at hh; exact opIn_of_still hF (hnd _ _ ho) h hh
    · rename_i hw; simp only [hw] at hh; exact ⟨fun f _ => hF.fn f, h _ hh⟩
theorem anyIn_of_head (hF : Wide F n P) (hnd : ∀ (i : Nat) (o : Oper), ops[i]? = some o → ∀ c, o.op ≠ .defer c) {m g : Nat} {L : Array Bool → Act → Prop} (hL : ∀ listed a, L listed a → wpAnyIn F n P md ops Q g listed a w) :
    ∀ (f : Nat) (listed : Array Bool) (a : Act), wpAnyL P md ops w m L f listed a → wpAnyIn F n P md ops Q (f + g) listed a w
  | 0, listed, a, h => by rw [Nat.zero_add]; exact hL _ _ h
  | f + 1, listed, a, h => by
    rw [Nat.add_right_comm]
    exact ⟨fun h0 => absurd h0 h.1, fun i hi => anOpIn_of_still hF hnd (fun a' h' => anyIn_of_head hF hnd hL f _ a' h') (h.2 i hi).2⟩
theorem anyIn_of_seq : ∀ (l : List Oper) (k : Nat) (listed : Array Bool) (a : Act) (w : World), (∀ j, l[j]? = ops[k + j]?) →
    Region.seqB md ops l.length k listed = true → wpListIn F n P ops Q l a w → wpAnyIn F n P md ops Q l.length listed a w
  | [], _, _, _, _, _, hB, h => ⟨by simpa [Region.seqB] using hB, h⟩
  | o :: l, k, listed, a, w, hl, hB, h => by
    have h0 : ops[k]? = some o := by simpa using (hl 0).symm
    simp only [List.length_cons, Region.seqB, Bool.and_eq_true, decide_eq_true_eq] at hB
    refine ⟨fun h1 => (by rw [hB.1] at h1; cases h1), fun i hi => ?_⟩
    rw [hB.1] at hi
    obtain rfl : i = k := by simpa using hi
    have hw : wpOpIn F n P ops Q i (wpListIn F n P ops Q l) a w := by unfold wpOpIn; simp only [h0]; exact h
    exact wpOpIn_mono (fun a' w' h' => anyIn_of_seq l (i + 1) _ a' w' (fun j => by have := hl (j + 1); simpa [Nat.add_assoc, Nat.add_comm 1 j] using this) hB.2 h') hw
theorem regionIn_tail (hF : Wide F n P) {id : Nat} {a : Act} {l : List Oper} (m : Nat) (hm : P.follows .mixedOrders = true) (hB : Region.lexTailB .any l.toArray m = true) (hnd : noDefer l = true)
    (h : wpStill P l.toArray w.drew (fun a' => wpListIn F n P l.toArray Q (l.drop m) a' w.drew) (l.take m) a) : (Code.region id l.toArray true).wpIn F n P Q a w := by
  simp only [Region.lexTailB, Bool.and_eq_true, decide_eq_true_eq] at hB
  obtain ⟨⟨⟨⟨hsel, hn⟩, hs⟩, hc⟩, hlex⟩ := hB
  have hn' : m < l.length := by simpa using hn
  have htl : (l.take m).length = m := by rw [List.length_take]; omega
  have hdl : (l.drop m).length = l.toArray.size - m := by simp
  have inv : HeadInv .any l.toArray m (Array.replicate l.toArray.size false) :=
    ⟨by simp, fun j oj _ hl => (by rw [getD_replicate_false] at hl; cases hl), fun t _ ht => getD_in (by simpa using ht) (getD_replicate_false _ _)⟩
  have H := wpAnyL_lex (md := .any) (g := l.toArray.size - m) hsel hs hc hn (l.take m) 0 _ a (fun j hj => by
    have hj' : j < m := by rw [htl] at hj; exact hj
    simp [hj']) (by simpa using htl) inv (by rw [htl]; exact hlex) h
  refine wpIn_region_any hm ?_
  have := anyIn_of_head hF (fun i o ho c => noDefer_spec hnd ho c) (n := n) (Q := Q) (g := l.toArray.size - m) (fun listed a' hL => by
    have := anyIn_of_seq (F := F) (md := .any) (n := n) (Q := Q) (l.drop m) m listed a' w.drew (fun j => by simp [List.getElem?_drop]) (by rw [hdl]; exact hL.1) hL.2
    rwa [hdl] at this) _ _ _ H
  rw [htl, show m + (l.toArray.size - m) = l.toArray.size by omega] at this
  exact this
end
end Go.Proofs.YtbffmobjiiicoaaDoor
end
section
/- Whatever is shown of a region that draws its order, outside a fence, goes for it in a round too. -/
set_option linter.unusedVariables false
namespace Go.Proofs.YtbffmobjiiicoaaDoor
section
variable {P : Program} {ops : Array Oper} {Q : Exit → Act → World → Prop} {md : Region.Mode}
theorem rows_wide {n l : Nat} {row : String} {args : Array Value} {w : World} {R : Value → World → Prop} (h : Rows P row args w R) : RowsIn (Fence.wide.inRound l) n P row args w R :=
  fun c cs _ => let ⟨v, w', r, s⟩ := h c cs; ⟨v, w', r, stepsIn_wide.2 s⟩
/-- It ends as it should, and in no other way. -/
def onlyNormal (Q : Exit → Act → World → Prop) : Exit → Act → World → Prop := fun e a w => e = .normal ∧ Q .normal a w
theorem only_out : ¬ LetsOut (onlyNormal Q) := by
  rintro ⟨a, w, h1, _⟩
  cases h1
theorem opIn_of_op {n l : Nat} {o : Oper} {a : Act} {w : World} {K K' : Act → World → Prop} (hnd : ∀ c, o.op ≠ .defer c) (hK : ∀ a w, K a w → K' a w) (h : o.wp P a w K (onlyNormal Q)) : o.wpIn (Fence.wide.inRound l) n P a w K' Q := by
  unfold Oper.wp at h
  unfold Oper.wpIn
  refine ⟨fun f _ => trivial, ?_⟩
  rw [Oper.semAt_plain _ _ _ hnd]
  generalize (execOp a.eval o).run P w = r at *
  cases r with
  | ok x w' =>
    cases x <;> simp only [Oper.upon, Oper.uponIn] at h ⊢
    case value v => exact hK _ _ h
    case skip => exact hK _ _ h
    case defer d => exact hK _ _ h
    case enter f args =>
      refine ⟨(fun hd => by cases hd), (CallsIn.inRound l (callsIn_wide.2 h)).mono ?_⟩
      intro e w'' he
      cases e with
      | returned v => exact hK _ _ he
      | panicked c => cases he.1
      | outgrown => exact absurd he only_out
    case row row args => exact ⟨(fun hd => by cases hd), (rows_wide h).mono fun v w'' hv => hK _ _ hv⟩
  | halt x w' => cases x <;> simp only [Oper.upon, Oper.uponIn] at h ⊢ <;> first | exact h.elim | (cases h.1)
theorem anyIn_of_any {n l : Nat} (hnd : ∀ (i : Nat) (o : Oper), ops[i]? = some o → ∀ c, o.op ≠ .defer c) : ∀ (g : Nat) (listed : Array Bool) (a : Act) (w : World), wpAny P md ops (onlyNormal Q) g listed a w → wpAnyIn (Fence.wide.inRound l) n P md ops Q g listed a w
  | 0, listed, a, w, h => ⟨h.1, h.2.2⟩
  | g + 1, listed, a, w, h => ⟨fun h0 => (h.1 h0).2, fun i hi => by
    have hh := h.2 i hi
    unfold wpOp at hh
    unfold wpOpIn
    split
    · rename_i ho; simp only [ho] at hh; exact anyIn_of_any hnd g _ a w hh
    · rename_i o ho
      simp only [ho] at hh
      split
      · rename_i hw
        simp only [hw, if_true] at hh
        rcases hh with hh | ⟨_, hh⟩
        · exact opIn_of_op (hnd _ _ ho) (fun a' w' h' => anyIn_of_any hnd g _ a' w' h') hh
        · exact absurd hh only_out
      · rename_i hw; simp only [hw] at hh; exact ⟨fun f _ => trivial, anyIn_of_any hnd g _ _ w hh⟩⟩
/-- A region in a round, met as outside. -/
theorem regionIn_held {n l id : Nat} {a : Act} {w : World} {L : List Oper} (S : World → Prop) (hm : P.follows .mixedOrders = true) (hnd : noDefer L = true)
    (h : wpAnyH P .any L.toArray (onlyNormal Q) S L.toArray.size (Array.replicate L.toArray.size false) a w.drew) : (Code.region id L.toArray true).wpIn (Fence.wide.inRound l) n P Q a w :=
  wpIn_region_any hm (anyIn_of_any (fun i o ho c => noDefer_spec hnd ho c) _ _ _ _ (wpAny_of_held _ _ _ _ h))
theorem held_take {S : World → Prop} {i : Nat} {oi : Oper} {v : Value} {fuel : Nat} {listed : Array Bool} {a : Act} {w : World} (hi : ops[i]? = some oi) (hs : Region.noSelect ops = true) (hf : Region.free .any ops listed i = true) (hr : (Region.ready .any ops listed).contains i = true)
    (hg : oi.guard = none) (hrun : ∀ W, S W → (execOp a.eval oi).run P W = .ok (.value v) W) (hS : S w) (h : wpAnyH P .any ops (onlyNormal Q) S fuel (listed.setIfInBounds i true) (a.put oi.dst v) w) : wpAnyH P .any ops (onlyNormal Q) S (fuel + 1) listed a w :=
  wpAnyH_take hi hs hf hr (fun _ _ _ h => by cases h.1) (.inl ⟨by simp [Region.wanted, hg], hrun⟩) hS h
theorem held_one {S : World → Prop} {i : Nat} {o : Oper} {fuel : Nat} {listed : Array Bool} {a : Act} {w : World} (hi : ops[i]? = some o) (hr : Region.ready .any ops listed = [i]) (hg : o.guard = none)
    (h : o.wp P a w (fun a' w' => S w' ∧ wpAnyH P .any ops (onlyNormal Q) S fuel (listed.setIfInBounds i true) a' w') (onlyNormal Q)) : wpAnyH P .any ops (onlyNormal Q) S (fuel + 1) listed a w := by
  refine wpAnyH_all hr (by simp) fun j hj => ?_
  obtain rfl : j = i := by simpa using hj
  unfold wpOp
  simp only [hi]
  rw [if_pos (by simp [Region.wanted, hg])]
  exact .inl h
theorem held_two {S : World → Prop} {i j : Nat} {o o' : Oper} {fuel : Nat} {listed : Array Bool} {a : Act} {w : World} (hi : ops[i]? = some o) (hj : ops[j]? = some o') (hr : Region.ready .any ops listed = [i, j]) (hg : o.guard = none) (hg' : o'.guard = none)
    (h : o.wp P a w (fun a' w' => S w' ∧ wpAnyH P .any ops (onlyNormal Q) S fuel (listed.setIfInBounds i true) a' w') (onlyNormal Q)) (h' : o'.wp P a w (fun a' w' => S w' ∧ wpAnyH P .any ops (onlyNormal Q) S fuel (listed.setIfInBounds j true) a' w') (onlyNormal Q)) : wpAnyH P .any ops (onlyNormal Q) S (fuel + 1) listed a w := by
  refine wpAnyH_all hr (by simp) fun k hk => ?_
  have : k = i ∨ k = j := by simpa using hk
  rcases this with rfl | rfl
  · unfold wpOp
    simp only [hi]
    rw [if_pos (by simp [Region.wanted, hg])]
    exact .inl h
  · unfold wpOp
    simp only [hj]
    rw [if_pos (by simp [Region.wanted, hg'])]
    exact .inl h'
theorem wp_of_run {o : Oper} {a : Act} {w : World} {K : Act → World → Prop} {v : Value} (hrun : (execOp a.eval o).run P w = .ok (.value v) w) (h : K (a.put o.dst v) w) : o.wp P a w K Q := by
  unfold Oper.wp; rw [hrun]; exact h
theorem held_val {S : World → Prop} {i : Nat} {o : Oper} {v : Value} {fuel : Nat} {listed : Array Bool} {a : Act} {w : World} (hi : ops[i]? = some o) (hr : Region.ready .any ops listed = [i]) (hg : o.guard = none) (hrun : (execOp a.eval o).run P w = .ok (.value v) w) (hS : S w)
    (h : wpAnyH P .any ops (onlyNormal Q) S fuel (listed.setIfInBounds i true) (a.put o.dst v) w) : wpAnyH P .any ops (onlyNormal Q) S (fuel + 1) listed a w := by
  refine held_one hi hr hg ?_
  unfold Oper.wp
  rw [hrun]; exact ⟨hS, h⟩
theorem held_done {S : World → Prop} {listed : Array Bool} {a : Act} {w : World} (hr : Region.ready .any ops listed = []) (h : Q .normal a w) (fuel : Nat) : wpAnyH P .any ops (onlyNormal Q) S fuel listed a w :=
  wpAnyH_done hr ⟨rfl, h⟩ fuel
end
end Go.Proofs.YtbffmobjiiicoaaDoor
end
section
/- The contract of civil.Of. -/
set_option linter.unusedVariables false
set_option linter.unusedSimpArgs false
namespace Go.Proofs.YtbffmobjiiicoaaDoor
open Go.RowKit Go.Shelf
attribute [local go_sem] Oper.semAt_some
abbrev dateV (y m d : Int) : Value := .agg #[.int .i64 y, .int .i64 m, .int .i64 d]
theorem held_step {P : Program} {ops : Array Oper} {Q : Exit → Act → World → Prop} {S : World → Prop} {i : Nat} {o : Oper} {fuel : Nat} {listed : Array Bool} {a : Act} {w w' : World} (hi : ops[i]? = some o) (hr : Region.ready .any ops listed = [i]) (hg : o.guard = none) (hrun : (execOp a.eval o).run P w = .ok .skip w') (hS : S w')
    (h : wpAnyH P .any ops (onlyNormal Q) S fuel (listed.setIfInBounds i true) (a.put o.dst undef) w') : wpAnyH P .any ops (onlyNormal Q) S (fuel + 1) listed a w := by
  refine held_one hi hr hg ?_
  unfold Oper.wp
  rw [hrun]; exact ⟨hS, h⟩
theorem cells_kept {X Y : World} {row : Option Nat} {b : Nat} {cs : Array Value} {t : TypeId} {fr : Nat × Nat} (h : X.heap[b]? = some (.cells cs t fr)) (hg : X.grownBy Y row) (hr : ∀ r, row = some r → ∃ o : Obj, X.heap[r]? = some o ∧ o.isCells = false) : Y.heap[b]? = some (.cells cs t fr) :=
  (hg.block b (Array.getElem?_eq_some_iff.1 h).1 (fun e => by obtain ⟨o, ho, hc⟩ := hr b e.symm; rw [h] at ho; cases ho; cases hc)).trans h
theorem results_date {y m d e : Int} {b : Nat} {tmps : Array Value} {w : World} (h2 : tmps.getD 2 undef = .pointer (some ⟨b, 0, none⟩)) (h3 : tmps.getD 3 undef = .int .i64 e)
    (hb : w.heap[b]? = some (.cells #[.int .i64 y, .int .i64 m, .int .i64 d] 110 (0, 0))) : (results Tryd.f72 tmps).run Tryd.prog w = .ok (.tuple #[dateV y m d, .int .i64 e]) w := by
  have c0 : w.cell? ⟨b, 0, none⟩ = some (.int .i64 y) := cell_of_row w b 0 _ _ _ hb
  have c1 : w.cell? ⟨b, 1, none⟩ = some (.int .i64 m) := cell_of_row w b 1 _ _ _ hb
  have c2 : w.cell? ⟨b, 2, none⟩ = some (.int .i64 d) := cell_of_row w b 2 _ _ _ hb
  simp only [Array.getD_eq_getD_getElem?] at h2 h3
  simp [results, Tryd.results72, go_sem, h2, h3, c0, c1, c2, dateV]
/-- Between two rounds: what the cells of Of hold. -/
def OfI (b2 : Nat) (y rest : Int) (q : List Mon) (W : World) : Prop :=
  ∃ mm dd : Int, W.heap[b2 + 1]? = some (.cells #[.int .i64 y, .int .i64 mm, .int .i64 dd] 110 (0, 0)) ∧ Boxed W (b2 + 2) 3 (.int .i64 rest) ∧
    W.heap[b2]? = some (.cells #[.int .i64 0, .int .i64 0, .int .i64 0] 110 (0, 0)) ∧ (∀ x ∈ q, bef y x.1 ≤ rest) ∧ (∀ p (x : Mon), q = p ++ [x] → mm = x.1 ∧ dd = rest - bef y x.1 + 1)
theorem OfI.kept {b2 : Nat} {y rest : Int} {q : List Mon} {X Y : World} {row : Option Nat} (h : OfI b2 y rest q X) (hg : X.grownBy Y row) (hr : ∀ r, row = some r → ∃ o : Obj, X.heap[r]? = some o ∧ o.isCells = false) : OfI b2 y rest q Y := by
  obtain ⟨mm, dd, h1, h2, h3, h4, h5⟩ := h
  exact ⟨mm, dd, cells_kept h1 hg hr, cells_kept h2 hg hr, cells_kept h3 hg hr, h4, h5⟩
theorem of_no (n : Int) (w : World) (hT : Tabs w) (h : ¬ (0 ≤ n ∧ n ≤ 2932896)) :
    Calls Tryd.prog 72 #[.int .i64 n] w fun e w' => e = .returned (.tuple #[dateV 0 0 0, .int .i64 60]) ∧ Below w.heap.size w w' := by
  have hd : decide (0 ≤ n ∧ n ≤ 2932896) = false := decide_eq_false h
  refine (callsIn_wide (n := 4)).1 ?_
  refine callsIn_of_wp_marks Tryd.func72 rfl trivial ?_ rfl
  simp only [Tryd.ntmps72, List.size_toArray, List.length_cons, List.length_nil, Nat.reduceAdd, Nat.reduceSub, Array.replicate_succ, Array.replicate_zero, List.push_toArray, List.append_toArray, List.nil_append, List.cons_append]
  gi_wp2
  refine wpIn_scope_straight (wpIn_seq ?_)
  gi_wp2_with (refine ⟨trivial, ?_⟩; gi_at_call 87; refine (callsIn_wide.2 (isDay_any _ _)).mono ?_; rintro e w' ⟨rfl, rfl⟩; rw [hd])
  rw [Exit.noGoto_ret]
  exact ⟨_, results_date rfl rfl (heap_alloc_new w _), rfl, (Below.refl _ w).alloc (Nat.le_refl _) _⟩
set_option maxRecDepth 100000 in
set_option maxHeartbeats 2000000 in
theorem of_yes (n : Int) (w : World) (hT : Tabs w) (h0 : 0 ≤ n) (h1 : n ≤ 2932896) :
    Calls Tryd.prog 72 #[.int .i64 n] w fun e w' => (∃ y m d, IsDate n y m d ∧ e = .returned (.tuple #[dateV y m d, .int .i64 0])) ∧ Below w.heap.size w w' := by
  have hd : decide (0 ≤ n ∧ n ≤ 2932896) = true := decide_eq_true ⟨h0, h1⟩
  have HD := Lib.hid hd
  clear hd
  refine (callsIn_wide (n := 4)).1 ?_
  refine callsIn_of_wp_marks Tryd.func72 rfl trivial ?_ rfl
  simp only [Tryd.ntmps72, List.size_toArray, List.length_cons, List.length_nil, Nat.reduceAdd, Nat.reduceSub, Array.replicate_succ, Array.replicate_zero, List.push_toArray, List.append_toArray, List.nil_append, List.cons_append]
  gi_wp2
  refine wpIn_scope_straight (wpIn_seq ?_)
  gi_wp2_with (first | (refine ⟨trivial, ?_⟩; gi_at_call 87; refine (callsIn_wide.2 (isDay_any _ _)).mono ?_; rintro e w' ⟨rfl, rfl⟩; rw [HD.out]) | (refine ⟨trivial, ?_⟩; gi_at_call 88; refine (callsIn_wide.2 (yearOf_any n h0 h1 _)).mono ?_; rintro e w' ⟨⟨y, hy0, hy1, hya, hyb, rfl⟩, rfl⟩; refine Hid.out ?_))
  refine Lib.hid ?_
  have hda := daysAhead_any y (by omega) (by omega)
  obtain ⟨L, hL⟩ : ∃ L, L = ahead y := ⟨_, rfl⟩
  have hy2 := ahead_succ (y := y) (by omega)
  have hlb : 0 ≤ L ∧ L ≤ 2932896 := by
    have := ahead_le (a := 1970) (b := y) hy0
    rw [ahead_1970] at this
    omega
  have hlp := lp_le y
  have hrest : 0 ≤ n - L ∧ n - L ≤ 366 := by omega
  rw [← hL] at hda
  have HL := Lib.hid hL
  have HDA := Lib.hid hda
  clear hda hL
  gi_wp2_with (refine ⟨trivial, ?_⟩; gi_at_call 70; refine (callsIn_wide.2 (HDA.out _)).mono ?_; rintro e w' ⟨rfl, rfl⟩)
  obtain ⟨X, hX⟩ : ∃ X, (((w.alloc (.cells #[.int .i64 0, .int .i64 0, .int .i64 0] 110)).alloc (.cells #[.int .i64 y, .int .i64 0, .int .i64 0] 110)).alloc (.cells #[.int .i64 (n - L)] 3)) = X := ⟨_, rfl⟩
  have d1 : X.heap[w.heap.size]? = some (.cells #[.int .i64 0, .int .i64 0, .int .i64 0] 110 (0, 0)) := by
    rw [← hX]; exact heap_old (heap_old (heap_alloc_new w _) _) _
  have d2 : X.heap[w.heap.size + 1]? = some (.cells #[.int .i64 y, .int .i64 0, .int .i64 0] 110 (0, 0)) := by
    have := heap_alloc_new (w.alloc (.cells #[.int .i64 0, .int .i64 0, .int .i64 0] 110)) (.cells #[.int .i64 y, .int .i64 0, .int .i64 0] 110)
    rw [World.size_alloc] at this
    rw [← hX]; exact heap_old this _
  have d3 : Boxed X (w.heap.size + 2) 3 (.int .i64 (n - L)) := by
    have := Boxed.new ((w.alloc (.cells #[.int .i64 0, .int .i64 0, .int .i64 0] 110)).alloc (.cells #[.int .i64 y, .int .i64 0, .int .i64 0] 110)) 3 (.int .i64 (n - L))
    simp only [World.size_alloc] at this
    rw [← hX]; exact this
  have d4 : Below w.heap.size w X := by rw [← hX]; exact (((Below.refl _ w).alloc (Nat.le_refl _) _).alloc (by simp) _).alloc (by simp; omega) _
  have d5 : X.heap.size = w.heap.size + 3 := by rw [← hX]; simp
  rw [hX, show w.heap.size + 1 + 1 = w.heap.size + 2 from rfl]
  have HI := Lib.hid (show OfI w.heap.size y (n - L) [] X from ⟨0, 0, d2, d3, d1, by simp, by simp⟩)
  have HB := Lib.hid d4
  have cy : X.cell? ⟨w.heap.size + 1, 0, none⟩ = some (.int .i64 y) := cell_of_row X (w.heap.size + 1) 0 _ _ _ d2
  clear d1 d2 d3 d4 hX HD HDA
  refine wpIn_label ?_
  gi_wp2_with (refine ⟨trivial, ?_⟩; gi_at_call 71; refine (monthsOf_in _ _ _).mono ?_; rintro e w' ⟨rfl, rfl⟩)
  have bY := Boxed.new X 3 (.int .i64 y)
  rw [d5] at bY
  obtain ⟨X2, hX2⟩ : ∃ X2, X.alloc (.cells #[.int .i64 y] 3) = X2 := ⟨_, rfl⟩
  have hz2 : X2.heap.size = w.heap.size + 4 := by rw [← hX2]; simp; omega
  have hI2 : OfI w.heap.size y (n - L) [] X2 := by rw [← hX2]; exact HI.out.kept (World.grownBy_alloc X _ none) (fun r e => by cases e)
  have hB2 : Below w.heap.size w X2 := by rw [← hX2]; exact HB.out.alloc HB.out.size _
  have hT2 : Tabs X2 := hT.next hB2
  rw [hX2] at bY ⊢
  clear HI HB cy hX2
  have hhb := Lib.hid (And.intro hy0 (And.intro hy1 (And.intro hya hyb)))
  have hw0 := hT.lt
  clear hya hyb hT
  refine wpIn_rangeFunc_ownG rfl (by omega) (gf := 86) (lb := #[.pointer (some ⟨w.heap.size + 3, 0, none⟩)]) rfl trivial (enters_of Tryd.func86 (by kernel_rfl) rfl)
    (months_stopsK _ (by omega) (w.heap.size + 3) w.heap.size y X2 hw0 (by omega) (by omega) bY.cell hT2) KM.trans (kmB (by omega) (by omega)) (Below.refl _ _) (fun _ => rfl)
    (fun pre W => OfI w.heap.size y (n - L) pre W ∧ Below w.heap.size w W)
    (fun c pre W => (∃ q x, pre = q ++ [x] ∧ n - L < bef y x.1 ∧ OfI w.heap.size y (n - L) q W ∧ c = .exit 0) ∧ Below w.heap.size w W)
    (OwnFrom.and (Own.from (fun s A B row hs hg hr => hs.kept hg hr) _) (ownFrom_below (Nat.le_refl _) (by omega)))
    (fun c => OwnFrom.and (Own.from (fun s A B row hs hg hr => let ⟨q, x, e1, e2, h, e3⟩ := hs; ⟨q, x, e1, e2, h.kept hg hr, e3⟩) _) (ownFrom_below (Nat.le_refl _) (by omega)))
    ⟨hI2, hB2⟩
    (fun x => { tmps := #[.int .i64 n, undef, .pointer (some ⟨w.heap.size, 0, none⟩), .int .i64 0, .pointer (some ⟨w.heap.size + 1, 0, none⟩), .pointer (some ⟨w.heap.size + 2, 0, none⟩), .int .i64 x.1, .int .i64 (bef y x.1), .int .i64 n, .bool true, .bool false, undef, .int .i64 n, .int .i64 y, .agg #[.int .i64 y, .int .i64 0, .int .i64 0], .int .i64 n, .pointer (some ⟨w.heap.size + 1, 0, none⟩), .int .i64 y, .int .i64 L, .int .i64 (n - L), .pointer (some ⟨w.heap.size + 1, 0, none⟩), .int .i64 y, .func (.func 86) #[] #[.pointer (some ⟨w.heap.size + 3, 0, none⟩)], .int .i64 x.1, .int .i64 (bef y x.1), undef, undef, undef, undef, undef, undef, undef, undef, undef, undef, undef], defers := [] }) ?assign ?body ?done ?stop
  case assign =>
    intro l x W K hK
    unfold encM
    gi_wp2
    exact hK
  case body =>
    rintro l pre x W ⟨hI, hB⟩ hlt
    have hx := x.2
    have hbb := bef_bounds (y := y) (m := x.1) (by omega) (by omega)
    have HI := Lib.hid hI
    have HB := Lib.hid hB
    obtain ⟨mm, dd, h1, h2, h3, h4, h5⟩ := hI
    have hbc := h2.cell
    have g1 : W.cell? ⟨w.heap.size + 1, 1, none⟩ = some (.int .i64 mm) := cell_of_row W (w.heap.size + 1) 1 _ _ _ h1
    have g2 : W.cell? ⟨w.heap.size + 1, 2, none⟩ = some (.int .i64 dd) := cell_of_row W (w.heap.size + 1) 2 _ _ _ h1
    have f1 := frozen_of_row W (w.heap.size + 1) 1 _ _ h1
    have f2 := frozen_of_row W (w.heap.size + 1) 2 _ _ h1
    have H1 := Lib.hid h1
    have H2 := Lib.hid h2
    have H3 := Lib.hid h3
    have H4 := Lib.hid h4
    obtain ⟨bx, hbe⟩ : ∃ b, b = bef y x.1 := ⟨_, rfl⟩
    rw [← hbe] at hbb ⊢
    have HBE := Lib.hid hbe
    clear hB hbe hT2 bY h1 h2 h3 h4 h5 hI2 hB2
    by_cases hgt : n - L < bx
    · have hgd : decide (n - L < bx) = true := decide_eq_true hgt
      gi_wp2
      exact ⟨KeepsFrom.refl _ _, ⟨pre, x, rfl, by rw [← HBE.out]; exact hgt, HI.out, rfl⟩, HB.out⟩
    · have hgd : decide (n - L < bx) = false := decide_eq_false hgt
      gi_wp2
      have hmx : Tryd.prog.follows .mixedOrders = true := by kernel_rfl
      have hw1 : IntKind.i64.wrap (n - L - bx) = n - L - bx := by simp only [IntKind.wrap_i64, wrap64]; omega
      have hw2 : IntKind.i64.wrap (n - L - bx + 1) = n - L - bx + 1 := by simp only [IntKind.wrap_i64, wrap64]; omega
      have hbox := H2.out
      refine regionIn_held (fun X => Boxed X (w.heap.size + 2) 3 (.int .i64 (n - L))) hmx (by kernel_rfl) ?_
      refine held_take (i := 0) (v := .int .i64 x.1) rfl (by kernel_rfl) (by kernel_rfl) (by kernel_rfl) rfl (fun X hX => by simp [execOp, go_sem]) hbox ?_
      refine held_take (i := 1) (v := .int .i64 (n - L)) rfl (by kernel_rfl) (by kernel_rfl) (by kernel_rfl) rfl (fun X hX => by have := hX.cell; simp [execOp, go_sem, this]) hbox ?_
      refine held_take (i := 2) (v := .int .i64 bx) rfl (by kernel_rfl) (by kernel_rfl) (by kernel_rfl) rfl (fun X hX => by simp [execOp, go_sem]) hbox ?_
      refine held_take (i := 3) (v := .int .i64 (n - L - bx)) rfl (by kernel_rfl) (by kernel_rfl) (by kernel_rfl) rfl (fun X hX => by simp [execOp, go_sem, hw1]) hbox ?_
      refine held_take (i := 4) (v := .int .i64 (n - L - bx + 1)) rfl (by kernel_rfl) (by kernel_rfl) (by kernel_rfl) rfl (fun X hX => by simp [execOp, go_sem, hw2]) hbox ?_
      refine held_take (i := 5) (v := .pointer (some ⟨w.heap.size + 1, 1, none⟩)) rfl (by kernel_rfl) (by kernel_rfl) (by kernel_rfl) rfl (fun X hX => by simp [execOp, go_sem]) hbox ?_
      have q1 : Boxed (W.drew.setCell ⟨w.heap.size + 1, 1, none⟩ (.int .i64 x.1)) (w.heap.size + 2) 3 (.int .i64 (n - L)) := (heap_setCell_other W.drew ⟨w.heap.size + 1, 1, none⟩ (w.heap.size + 2) _ (by simp)).trans hbox
      have q2 : Boxed ((W.drew.setCell ⟨w.heap.size + 1, 1, none⟩ (.int .i64 x.1)).setCell ⟨w.heap.size + 1, 2, none⟩ (.int .i64 (n - L - bx + 1))) (w.heap.size + 2) 3 (.int .i64 (n - L)) := (heap_setCell_other _ ⟨w.heap.size + 1, 2, none⟩ (w.heap.size + 2) _ (by simp)).trans q1
      refine held_step (i := 6) (w' := W.drew.setCell ⟨w.heap.size + 1, 1, none⟩ (.int .i64 x.1)) rfl (by kernel_rfl) rfl (by simp [execOp, go_sem, g1, f1]) q1 ?_
      refine held_take (i := 7) (v := .pointer (some ⟨w.heap.size + 1, 2, none⟩)) rfl (by kernel_rfl) (by kernel_rfl) (by kernel_rfl) rfl (fun X hX => by simp [execOp, go_sem]) q1 ?_
      refine held_step (i := 8) (w' := (W.drew.setCell ⟨w.heap.size + 1, 1, none⟩ (.int .i64 x.1)).setCell ⟨w.heap.size + 1, 2, none⟩ (.int .i64 (n - L - bx + 1))) rfl (by kernel_rfl) rfl (by simp [execOp, go_sem, g2, f2]) q2 ?_
      refine held_done (by kernel_rfl) ?_ _
      show KeepsFrom _ _ _ ∧ KM _ _ _ _ ∧ OfI _ _ _ _ _ ∧ Below _ _ _
      have e1 := HBE.out
      refine ⟨((KeepsOthers.drew W).trans ((KeepsOthers.setCell _ _ _).trans (KeepsOthers.setCell _ _ _))).from _, ⟨(heap_setCell_other _ ⟨w.heap.size + 1, 2, none⟩ (w.heap.size + 3) _ (by simp)).trans (heap_setCell_other W.drew ⟨w.heap.size + 1, 1, none⟩ (w.heap.size + 3) _ (by simp)), ((Below.refl w.heap.size W).drew.setCell (p := ⟨w.heap.size + 1, 1, none⟩) (by simp) _).setCell (p := ⟨w.heap.size + 1, 2, none⟩) (by simp) _⟩, ⟨x.1, n - L - bx + 1, ?_, q2, ?_, ?_, ?_⟩, (HB.out.drew.setCell (p := ⟨w.heap.size + 1, 1, none⟩) (by simp) _).setCell (p := ⟨w.heap.size + 1, 2, none⟩) (by simp) _⟩
      · exact heap_setCell_same _ (w.heap.size + 1) 2 _ _ _ (heap_setCell_same W.drew (w.heap.size + 1) 1 _ _ _ H1.out)
      · exact (heap_setCell_other _ ⟨w.heap.size + 1, 2, none⟩ w.heap.size _ (by simp)).trans ((heap_setCell_other W.drew ⟨w.heap.size + 1, 1, none⟩ w.heap.size _ (by simp)).trans H3.out)
      · intro z hz
        rcases List.mem_append.1 hz with h | h
        · exact H4.out z h
        · rw [List.mem_singleton.1 h, ← e1]; omega
      · intro p z hp
        obtain ⟨_, h⟩ := List.append_inj' hp rfl
        obtain rfl : x = z := by simpa using h
        exact ⟨rfl, by rw [e1]⟩
  case done =>
    rintro D ys W hD rfl ⟨⟨mm, dd, h1, h2, h3, h4, h5⟩, hB⟩ hK
    have hid : IsDate n y mm dd := by
      have e12 : (mon 11).1 = 12 := mon_val (by omega)
      obtain ⟨e1, e2⟩ := h5 (upto mon 11) (mon 11) (upto_succ mon 11)
      have hle := h4 (mon 11) (by rw [upto_succ mon 11]; simp)
      rw [e12] at e1 e2 hle
      have hb12 := bef_succ (y := y) (m := 12) (by omega) (by omega)
      have h13 := bef_13 y
      rw [show (12 : Int) + 1 = 13 from rfl] at hb12
      obtain ⟨q1, q2, q3, q4⟩ := hhb.out
      have hl := HL.out
      have := isDate_of (n := n) q1 q2 (show (1 : Int) ≤ 12 by omega) (by omega) (by omega) (by omega)
      rw [e1, e2, hl]; exact this
    have c0 : W.cell? ⟨w.heap.size + 1, 0, none⟩ = some (.int .i64 y) := cell_of_row W (w.heap.size + 1) 0 _ _ _ h1
    have c1 : W.cell? ⟨w.heap.size + 1, 1, none⟩ = some (.int .i64 mm) := cell_of_row W (w.heap.size + 1) 1 _ _ _ h1
    have c2 : W.cell? ⟨w.heap.size + 1, 2, none⟩ = some (.int .i64 dd) := cell_of_row W (w.heap.size + 1) 2 _ _ _ h1
    have r0 : W.cell? ⟨w.heap.size, 0, none⟩ = some (.int .i64 0) := cell_of_row W w.heap.size 0 _ _ _ h3
    have r1 : W.cell? ⟨w.heap.size, 1, none⟩ = some (.int .i64 0) := cell_of_row W w.heap.size 1 _ _ _ h3
    have r2 : W.cell? ⟨w.heap.size, 2, none⟩ = some (.int .i64 0) := cell_of_row W w.heap.size 2 _ _ _ h3
    have f0 := frozen_of_row W w.heap.size 0 _ _ h3
    have f1 := frozen_of_row W w.heap.size 1 _ _ h3
    have f2 := frozen_of_row W w.heap.size 2 _ _ h3
    have H3 := Lib.hid h3
    have HB := Lib.hid hB
    have HK := Lib.hid hK
    have HI := Lib.hid hid
    clear h1 h2 h3 h4 h5 hB hK hid hT2 bY hI2 hB2 hhb
    gi_wp2
    rw [Exit.noGoto_ret]
    have hrow := heap_setCell_same _ w.heap.size 2 _ _ (.int .i64 dd) (heap_setCell_same _ w.heap.size 1 _ _ (.int .i64 mm) (heap_setCell_same W w.heap.size 0 _ _ (.int .i64 y) H3.out))
    have hk2 := (heap_setCell_other ((W.setCell ⟨w.heap.size, 0, none⟩ (.int .i64 y)).setCell ⟨w.heap.size, 1, none⟩ (.int .i64 mm)) ⟨w.heap.size, 2, none⟩ D (.int .i64 dd) (by simp; omega)).trans ((heap_setCell_other (W.setCell ⟨w.heap.size, 0, none⟩ (.int .i64 y)) ⟨w.heap.size, 1, none⟩ D (.int .i64 mm) (by simp; omega)).trans ((heap_setCell_other W ⟨w.heap.size, 0, none⟩ D (.int .i64 y) (by simp; omega)).trans HK.out))
    have hb2 := ((HB.out.setCell (p := ⟨w.heap.size, 0, none⟩) (by simp) (.int .i64 y)).setCell (p := ⟨w.heap.size, 1, none⟩) (by simp) (.int .i64 mm)).setCell (p := ⟨w.heap.size, 2, none⟩) (by simp) (.int .i64 dd)
    refine ⟨by simp, .inl ⟨_, _, rfl, run_takeDeferred hk2, ?_⟩⟩
    exact ⟨_, results_date rfl rfl ((World.putObj_heap_other (by omega)).trans hrow), ⟨y, mm, dd, HI.out, rfl⟩, hb2.trans (belowK_b (w := w) (Nat.le_refl _) _ D _ _ (by omega) hk2 rfl rfl)⟩
  case stop =>
    rintro D c pre W hD ⟨k, hk, rfl⟩ ⟨⟨q, x, hq, hgt, ⟨mm, dd, h1, h2, h3, h4, h5⟩, rfl⟩, hB⟩ hK
    have hid : IsDate n y mm dd := by
      obtain ⟨j, rfl⟩ : ∃ j, k = j + 1 := ⟨k - 1, by
        cases k with
        | zero => simp [upto] at hq
        | succ j => rfl⟩
      rw [upto_succ] at hq
      obtain ⟨hq1, hq2⟩ := List.append_inj' hq rfl
      obtain rfl : mon j = x := by simpa using hq2
      rw [mon_val (by omega)] at hgt
      obtain ⟨i, rfl⟩ : ∃ i, j = i + 1 := ⟨j - 1, by
        cases j with
        | zero => rw [Int.natCast_zero, Int.zero_add, bef_one] at hgt; omega
        | succ j => rfl⟩
      rw [upto_succ] at hq1
      obtain ⟨e1, e2⟩ := h5 _ _ hq1.symm
      have hle := h4 (mon i) (by rw [← hq1]; simp)
      rw [mon_val (by omega)] at e1 e2 hle
      have hb := bef_succ (y := y) (m := i + 1) (by omega) (by omega)
      rw [Int.natCast_add] at hgt
      obtain ⟨q1, q2, q3, q4⟩ := hhb.out
      have hl := HL.out
      have hgt2 : n - L < bef y (i + 1 + 1) := hgt
      have := isDate_of (n := n) q1 q2 (show (1 : Int) ≤ i + 1 by omega) (by omega) (by omega) (by omega)
      rw [e1, e2, hl]; exact this
    have c0 : W.cell? ⟨w.heap.size + 1, 0, none⟩ = some (.int .i64 y) := cell_of_row W (w.heap.size + 1) 0 _ _ _ h1
    have c1 : W.cell? ⟨w.heap.size + 1, 1, none⟩ = some (.int .i64 mm) := cell_of_row W (w.heap.size + 1) 1 _ _ _ h1
    have c2 : W.cell? ⟨w.heap.size + 1, 2, none⟩ = some (.int .i64 dd) := cell_of_row W (w.heap.size + 1) 2 _ _ _ h1
    have r0 : W.cell? ⟨w.heap.size, 0, none⟩ = some (.int .i64 0) := cell_of_row W w.heap.size 0 _ _ _ h3
    have r1 : W.cell? ⟨w.heap.size, 1, none⟩ = some (.int .i64 0) := cell_of_row W w.heap.size 1 _ _ _ h3
    have r2 : W.cell? ⟨w.heap.size, 2, none⟩ = some (.int .i64 0) := cell_of_row W w.heap.size 2 _ _ _ h3
    have f0 := frozen_of_row W w.heap.size 0 _ _ h3
    have f1 := frozen_of_row W w.heap.size 1 _ _ h3
    have f2 := frozen_of_row W w.heap.size 2 _ _ h3
    have H3 := Lib.hid h3
    have HB := Lib.hid hB
    have HK := Lib.hid hK
    have HI := Lib.hid hid
    clear h1 h2 h3 h4 h5 hB hK hid hT2 bY hI2 hB2 hhb
    gi_wp2
    rw [Exit.noGoto_ret]
    have hrow := heap_setCell_same _ w.heap.size 2 _ _ (.int .i64 dd) (heap_setCell_same _ w.heap.size 1 _ _ (.int .i64 mm) (heap_setCell_same W w.heap.size 0 _ _ (.int .i64 y) H3.out))
    have hk2 := (heap_setCell_other ((W.setCell ⟨w.heap.size, 0, none⟩ (.int .i64 y)).setCell ⟨w.heap.size, 1, none⟩ (.int .i64 mm)) ⟨w.heap.size, 2, none⟩ D (.int .i64 dd) (by simp; omega)).trans ((heap_setCell_other (W.setCell ⟨w.heap.size, 0, none⟩ (.int .i64 y)) ⟨w.heap.size, 1, none⟩ D (.int .i64 mm) (by simp; omega)).trans ((heap_setCell_other W ⟨w.heap.size, 0, none⟩ D (.int .i64 y) (by simp; omega)).trans HK.out))
    have hb2 := ((HB.out.setCell (p := ⟨w.heap.size, 0, none⟩) (by simp) (.int .i64 y)).setCell (p := ⟨w.heap.size, 1, none⟩) (by simp) (.int .i64 mm)).setCell (p := ⟨w.heap.size, 2, none⟩) (by simp) (.int .i64 dd)
    refine ⟨by simp, .inl ⟨_, _, rfl, run_takeDeferred hk2, ?_⟩⟩
    exact ⟨_, results_date rfl rfl ((World.putObj_heap_other (by omega)).trans hrow), ⟨y, mm, dd, HI.out, rfl⟩, hb2.trans (belowK_b (w := w) (Nat.le_refl _) _ D _ _ (by omega) hk2 rfl rfl)⟩
end Go.Proofs.YtbffmobjiiicoaaDoor
end
