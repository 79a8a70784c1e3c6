/- The calendar as numbers: leap years, months, days since 1970. -/
namespace Go.Proofs.YtgedcfgmfhlkdaaDoor
def leap (y : Int) : Bool := (y.tmod 4 == 0) && ((y.tmod 100 != 0) || (y.tmod 400 == 0))
/-- The days of the months in a year that is no leap year. -/
def mlen (m : Int) : Int := if m = 4 ∨ m = 6 ∨ m = 9 ∨ m = 11 then 30 else if m = 2 then 28 else 31
def dlen (y m : Int) : Int := if m < 1 ∨ 12 < m then 0 else if m = 2 ∧ leap y = true then 29 else mlen m
/-- The days of a year ahead of a month: in one that is no leap year. -/
def cum (m : Int) : Int :=
  if m ≤ 1 then 0 else if m = 2 then 31 else if m = 3 then 59 else if m = 4 then 90 else if m = 5 then 120 else if m = 6 then 151 else if m = 7 then 181
  else if m = 8 then 212 else if m = 9 then 243 else if m = 10 then 273 else if m = 11 then 304 else if m = 12 then 334 else 365
def lp (y : Int) : Int := if leap y then 1 else 0
def bef (y m : Int) : Int := if 3 ≤ m then cum m + lp y else cum m
def leapsTo (y : Int) : Int := y / 4 - y / 100 + y / 400
def ahead (y : Int) : Int := 365 * (y - 1970) + leapsTo (y - 1) - 477
def May (y m d : Int) : Prop := 1970 ≤ y ∧ y ≤ 9999 ∧ 1 ≤ m ∧ m ≤ 12 ∧ 1 ≤ d ∧ d ≤ dlen y m
instance (y m d : Int) : Decidable (May y m d) := by unfold May; infer_instance
def dayOf (y m d : Int) : Int := ahead y + bef y m + d - 1
def IsDate (n y m d : Int) : Prop := May y m d ∧ n = dayOf y m d
instance (n y m d : Int) : Decidable (IsDate n y m d) := by unfold IsDate; infer_instance
def wkday (n : Int) : Int := (n + 3) % 7 + 1
theorem leap_pos {y : Int} (h : 0 ≤ y) : leap y = true ↔ y % 4 = 0 ∧ (y % 100 ≠ 0 ∨ y % 400 = 0) := by
  unfold leap
  rw [Int.tmod_eq_emod_of_nonneg h, Int.tmod_eq_emod_of_nonneg h, Int.tmod_eq_emod_of_nonneg h]
  simp
theorem lp_01 (y : Int) : lp y = 0 ∨ lp y = 1 := by unfold lp; split <;> simp
theorem lp_le (y : Int) : 0 ≤ lp y ∧ lp y ≤ 1 := by rcases lp_01 y with h | h <;> omega
theorem lp_leap {y : Int} (h : leap y = true) : lp y = 1 := by simp [lp, h]
theorem lp_no {y : Int} (h : leap y = false) : lp y = 0 := by simp [lp, h]
theorem leaps_succ {y : Int} (h : 1 ≤ y) : leapsTo y = leapsTo (y - 1) + lp y := by
  unfold leapsTo lp
  by_cases hl : leap y = true
  · rw [if_pos hl]; have := (leap_pos (by omega)).1 hl; omega
  · rw [if_neg hl]; have := mt (leap_pos (y := y) (by omega)).2 hl; omega
theorem ahead_succ {y : Int} (h : 1 ≤ y) : ahead (y + 1) = ahead y + 365 + lp y := by
  unfold ahead
  have := leaps_succ h
  rw [show y + 1 - 1 = y by omega]; omega
theorem ahead_1970 : ahead 1970 = 0 := by decide
theorem ahead_10000 : ahead 10000 = 2932897 := by decide
theorem leaps_mono {a b : Int} (hab : a ≤ b) : leapsTo a ≤ leapsTo b := by
  unfold leapsTo
  have : ∀ c : Int, c / 4 - c / 100 + c / 400 = c / 4 - (c / 4) / 25 + (c / 4) / 100 := by intro c; omega
  rw [this, this]
  have h4 : a / 4 ≤ b / 4 := by omega
  generalize a / 4 = p at *
  generalize b / 4 = q at *
  omega
theorem ahead_mono {a b : Int} (h : a + 1 ≤ b) : ahead a + 365 ≤ ahead b := by
  unfold ahead
  have := leaps_mono (a := a - 1) (b := b - 1) (by omega)
  omega
theorem ahead_le {a b : Int} (h : a ≤ b) : ahead a ≤ ahead b := by
  unfold ahead
  have := leaps_mono (a := a - 1) (b := b - 1) (by omega)
  omega
theorem month_cases {m : Int} (h1 : 1 ≤ m) (h2 : m ≤ 12) : m = 1 ∨ m = 2 ∨ m = 3 ∨ m = 4 ∨ m = 5 ∨ m = 6 ∨ m = 7 ∨ m = 8 ∨ m = 9 ∨ m = 10 ∨ m = 11 ∨ m = 12 := by omega
theorem dlen_in {y m : Int} (h1 : 1 ≤ m) (h2 : m ≤ 12) : dlen y m = if m = 2 then 28 + lp y else mlen m := by
  unfold dlen lp
  rw [if_neg (by omega)]
  by_cases h : m = 2
  · subst h
    cases leap y <;> simp [mlen]
  · simp [h]
theorem dlen_bounds {y m : Int} : 0 ≤ dlen y m ∧ dlen y m ≤ 31 := by
  unfold dlen mlen
  split
  · omega
  · split
    · omega
    · split
      · omega
      · split <;> omega
theorem dlen_ge {y m : Int} (h1 : 1 ≤ m) (h2 : m ≤ 12) : 28 ≤ dlen y m := by
  rw [dlen_in h1 h2]
  have := lp_le y
  by_cases h : m = 2
  · rw [if_pos h]; omega
  · rw [if_neg h]; unfold mlen; rw [if_neg h]; split <;> omega
theorem bef_succ {y m : Int} (h1 : 1 ≤ m) (h2 : m ≤ 12) : bef y (m + 1) = bef y m + dlen y m := by
  rw [dlen_in h1 h2]
  rcases month_cases h1 h2 with rfl | rfl | rfl | rfl | rfl | rfl | rfl | rfl | rfl | rfl | rfl | rfl <;> simp [bef, cum, mlen] <;> omega
theorem bef_one (y : Int) : bef y 1 = 0 := by simp [bef, cum]
theorem bef_13 (y : Int) : bef y 13 = 365 + lp y := by simp [bef, cum]
theorem bef_mono {y a b : Int} (ha : 1 ≤ a) (hab : a + 1 ≤ b) (hb : b ≤ 13) : bef y a + dlen y a ≤ bef y b := by
  obtain ⟨k, rfl⟩ : ∃ k : Nat, b = a + 1 + k := ⟨(b - (a + 1)).toNat, by omega⟩
  clear hab
  induction k with
  | zero => rw [Int.natCast_zero, Int.add_zero, bef_succ ha (by omega)]; omega
  | succ k ih =>
    have h := ih (by omega)
    have := bef_succ (y := y) (m := a + 1 + k) (by omega) (by omega)
    have hd := dlen_bounds (y := y) (m := a + 1 + k)
    rw [show a + 1 + ((k + 1 : Nat) : Int) = a + 1 + k + 1 by omega, this]; omega
theorem bef_bounds {y m : Int} (h1 : 1 ≤ m) (h2 : m ≤ 13) : 0 ≤ bef y m ∧ bef y m ≤ 366 := by
  have := lp_le y
  constructor
  · by_cases h : m = 1
    · rw [h, bef_one]; omega
    · have := bef_mono (y := y) (a := 1) (b := m) (by omega) (by omega) h2
      rw [bef_one] at this
      have := dlen_bounds (y := y) (m := 1)
      omega
  · by_cases h : m = 13
    · rw [h, bef_13]; omega
    · have := bef_mono (y := y) (a := m) (b := 13) (by omega) (by omega) (by omega)
      rw [bef_13] at this
      have := dlen_bounds (y := y) (m := m)
      omega
/-- A date's place in its year. -/
theorem in_year {y m d : Int} (h : May y m d) : ahead y ≤ dayOf y m d ∧ dayOf y m d < ahead (y + 1) := by
  obtain ⟨h1, h2, h3, h4, h5, h6⟩ := h
  have a := ahead_succ (y := y) (by omega)
  have b := bef_bounds (y := y) (m := m) (by omega) (by omega)
  have c := bef_mono (y := y) (a := m) (b := 13) (by omega) (by omega) (by omega)
  rw [bef_13] at c
  unfold dayOf
  omega
theorem day_bounds {y m d : Int} (h : May y m d) : 0 ≤ dayOf y m d ∧ dayOf y m d ≤ 2932896 := by
  have := in_year h
  have a := ahead_le (a := 1970) (b := y) h.1
  have b := ahead_le (a := y + 1) (b := 10000) (by have := h.2.1; omega)
  rw [ahead_1970] at a
  rw [ahead_10000] at b
  omega
/-- A day has one date. -/
theorem IsDate.unique {n y m d y' m' d' : Int} (h : IsDate n y m d) (h' : IsDate n y' m' d') : y = y' ∧ m = m' ∧ d = d' := by
  obtain ⟨hm, he⟩ := h
  obtain ⟨hm', he'⟩ := h'
  have a := in_year hm
  have a' := in_year hm'
  have hy : y = y' := by
    rcases Int.lt_trichotomy y y' with hl | rfl | hl
    · have := ahead_le (a := y + 1) (b := y') (by omega); omega
    · rfl
    · have := ahead_le (a := y' + 1) (b := y) (by omega); omega
  subst hy
  obtain ⟨h1, h2, h3, h4, h5, h6⟩ := hm
  obtain ⟨h1', h2', h3', h4', h5', h6'⟩ := hm'
  unfold dayOf at he he'
  have hmm : m = m' := by
    rcases Int.lt_trichotomy m m' with hl | rfl | hl
    · have := bef_mono (y := y) (a := m) (b := m') (by omega) (by omega) (by omega); omega
    · rfl
    · have := bef_mono (y := y) (a := m') (b := m) (by omega) (by omega) (by omega); omega
  subst hmm
  exact ⟨rfl, rfl, by omega⟩
/-- The date of a day, found by its year and month. -/
theorem isDate_of {n y m : Int} (hy0 : 1970 ≤ y) (hy1 : y ≤ 9999) (hm0 : 1 ≤ m) (hm1 : m ≤ 12) (h0 : ahead y + bef y m ≤ n) (h1 : n < ahead y + bef y m + dlen y m) : IsDate n y m (n - ahead y - bef y m + 1) :=
  ⟨⟨hy0, hy1, hm0, hm1, by omega, by omega⟩, by unfold dayOf; omega⟩
/-- The year that follows a day by 366 is not behind its own. -/
theorem year_start {n : Int} (h : 0 ≤ n) (h1 : n ≤ 2932896) : ahead (1970 + n / 366) ≤ n := by
  unfold ahead leapsTo
  omega
theorem year_end {y n : Int} (h : ahead y ≤ n) (h1 : n ≤ 2932896) : y ≤ 9999 := by
  by_cases hy : y ≤ 9999
  · exact hy
  · have := ahead_le (a := 10000) (b := y) (by omega)
    rw [ahead_10000] at this; omega
theorem wkday_bounds (n : Int) : 1 ≤ wkday n ∧ wkday n ≤ 7 := by unfold wkday; omega
/-- The next day's date: in the month, at the next one's beginning, at the next year's. -/
theorem next_in {n y m d : Int} (h : IsDate n y m d) (hd : d + 1 ≤ dlen y m) : IsDate (n + 1) y m (d + 1) := by
  obtain ⟨⟨h1, h2, h3, h4, h5, h6⟩, e⟩ := h
  exact ⟨⟨h1, h2, h3, h4, by omega, hd⟩, by rw [e]; unfold dayOf; omega⟩
theorem next_month {n y m d : Int} (h : IsDate n y m d) (hd : dlen y m < d + 1) (hm : m + 1 ≤ 12) : IsDate (n + 1) y (m + 1) 1 := by
  obtain ⟨⟨h1, h2, h3, h4, h5, h6⟩, e⟩ := h
  have hg := dlen_ge (y := y) (m := m + 1) (by omega) hm
  have hs := bef_succ (y := y) h3 h4
  exact ⟨⟨h1, h2, by omega, hm, by omega, by omega⟩, by rw [e]; unfold dayOf; rw [hs]; omega⟩
theorem next_year {n y m d : Int} (h : IsDate n y m d) (hn : n < 2932896) (hd : dlen y m < d + 1) (hm : 12 < m + 1) : IsDate (n + 1) (y + 1) 1 1 := by
  obtain ⟨⟨h1, h2, h3, h4, h5, h6⟩, e⟩ := h
  obtain rfl : m = 12 := by omega
  have hs := bef_succ (y := y) h3 h4
  have hb := bef_13 y
  have ha := ahead_succ (y := y) (by omega)
  rw [show (12 : Int) + 1 = 13 from rfl] at hs
  have he : n + 1 = ahead (y + 1) := by rw [e]; unfold dayOf; omega
  have hy : y + 1 ≤ 9999 := by
    by_cases hc : y + 1 ≤ 9999
    · exact hc
    · obtain rfl : y = 9999 := by omega
      rw [show (9999 : Int) + 1 = 10000 from rfl, ahead_10000] at he; omega
  have hg := dlen_ge (y := y + 1) (m := 1) (by omega) (by omega)
  exact ⟨⟨by omega, hy, by omega, by omega, by omega, by omega⟩, by rw [he]; unfold dayOf; rw [bef_one]; omega⟩
end Go.Proofs.YtgedcfgmfhlkdaaDoor
