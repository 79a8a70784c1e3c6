/- Joined: HMath HLeaf HHol HEq HIs. -/
import Derived.Test.YtbffmobjiiicoaaDoorJK2
import Derived.Laws.StructEq
section
/- Holidays, seasons and Easter Sunday as numbers. -/
set_option linter.unusedVariables false
namespace Go.Proofs.YtbffmobjiiicoaaDoor.H8
structure Ho where
  k : Int
  y : Int
  m : Int
  d : Int
  w : Int
  n : Int
structure Se where
  n : Int
  m : Int
  d : Int
def HoIs (h : Ho) : Prop :=
  (h.k = 1 ∧ h.y = 0 ∧ h.w = 0 ∧ h.n = 0 ∧ May 2000 h.m h.d) ∨ (h.k = 2 ∧ h.w = 0 ∧ h.n = 0 ∧ May h.y h.m h.d) ∨
  (h.k = 3 ∧ h.y = 0 ∧ h.d = 0 ∧ (1 ≤ h.m ∧ h.m ≤ 12) ∧ (1 ≤ h.w ∧ h.w ≤ 7) ∧ (h.n = -1 ∨ (1 ≤ h.n ∧ h.n ≤ 5))) ∨
  (h.k = 4 ∧ h.y = 0 ∧ h.m = 0 ∧ h.d = 0 ∧ h.w = 0 ∧ -100 ≤ h.n ∧ h.n ≤ 200)
instance (h : Ho) : Decidable (HoIs h) := by unfold HoIs; infer_instance
def SeIs (s : Se) : Prop := (1 ≤ s.n ∧ s.n ≤ 99) ∧ May 2001 s.m s.d
instance (s : Se) : Decidable (SeIs s) := by unfold SeIs; infer_instance
def bgn (m d : Int) : Int := m * 100 + d
/-- Are the first sl seasons on days of their own? -/
def Apart (S : Nat → Se) (sl : Nat) : Prop := ∀ i, i < sl → ∀ j, j < i → ¬ ((S j).m = (S i).m ∧ (S j).d = (S i).d)
instance (S : Nat → Se) (sl : Nat) : Decidable (Apart S sl) := by unfold Apart; infer_instance
def CalIs (H : Nat → Ho) (hl : Nat) (S : Nat → Se) (sl : Nat) : Prop := hl ≤ 100 ∧ sl ≤ 12 ∧ (∀ i, i < hl → HoIs (H i)) ∧ (∀ i, i < sl → SeIs (S i)) ∧ Apart S sl
instance (H : Nat → Ho) (hl : Nat) (S : Nat → Se) (sl : Nat) : Decidable (CalIs H hl S sl) := by unfold CalIs; infer_instance
/-! Easter. -/
def eaH (y : Int) : Int := (19 * (y % 19) + y / 100 - y / 100 / 4 - (y / 100 - (y / 100 + 8) / 25 + 1) / 3 + 15) % 30
def eaL (y : Int) : Int := (32 + 2 * (y / 100 % 4) + 2 * (y % 100 / 4) - eaH y - y % 100 % 4) % 7
def eaN (y : Int) : Int := eaH y + eaL y - 7 * ((y % 19 + 11 * eaH y + 22 * eaL y) / 451) + 114
def eaM (y : Int) : Int := eaN y / 31
def eaD (y : Int) : Int := eaN y % 31 + 1
def eaDay (y : Int) : Int := dayOf y (eaM y) (eaD y)
def eaOK (y : Int) : Bool := ((eaM y == 3 && decide (22 ≤ eaD y) && decide (eaD y ≤ 31)) || (eaM y == 4 && decide (1 ≤ eaD y) && decide (eaD y ≤ 25))) && (wkday (eaDay y) == 7)
def eaRun (s : Nat) : Nat → Bool
  | 0 => true
  | k + 1 => eaOK ((s + k : Nat) : Int) && eaRun s k
theorem eaRun_spec {s : Nat} : ∀ {k : Nat}, eaRun s k = true → ∀ j, j < k → eaOK ((s + j : Nat) : Int) = true
  | 0, _, j, hj => absurd hj (Nat.not_lt_zero _)
  | k + 1, h, j, hj => by
    rw [eaRun, Bool.and_eq_true] at h
    rcases Nat.lt_succ_iff_lt_or_eq.1 hj with hl | rfl
    · exact eaRun_spec h.2 j hl
    · exact h.1
theorem ea1 : eaRun 1970 2000 = true := by decide +kernel
theorem ea2 : eaRun 3970 2000 = true := by decide +kernel
theorem ea3 : eaRun 5970 2000 = true := by decide +kernel
theorem ea4 : eaRun 7970 2030 = true := by decide +kernel
theorem ea_ok {y : Int} (h0 : 1970 ≤ y) (h1 : y ≤ 9999) : eaOK y = true := by
  rcases (by omega : y < 3970 ∨ (3970 ≤ y ∧ y < 5970) ∨ (5970 ≤ y ∧ y < 7970) ∨ 7970 ≤ y) with h | h | h | h
  · have := eaRun_spec ea1 (y - 1970).toNat (by omega)
    rwa [show ((1970 + (y - 1970).toNat : Nat) : Int) = y by omega] at this
  · have := eaRun_spec ea2 (y - 3970).toNat (by omega)
    rwa [show ((3970 + (y - 3970).toNat : Nat) : Int) = y by omega] at this
  · have := eaRun_spec ea3 (y - 5970).toNat (by omega)
    rwa [show ((5970 + (y - 5970).toNat : Nat) : Int) = y by omega] at this
  · have := eaRun_spec ea4 (y - 7970).toNat (by omega)
    rwa [show ((7970 + (y - 7970).toNat : Nat) : Int) = y by omega] at this
theorem ea_in {y : Int} (h0 : 1970 ≤ y) (h1 : y ≤ 9999) : ((eaM y = 3 ∧ 22 ≤ eaD y ∧ eaD y ≤ 31) ∨ (eaM y = 4 ∧ 1 ≤ eaD y ∧ eaD y ≤ 25)) ∧ wkday (eaDay y) = 7 := by
  have h := ea_ok h0 h1
  unfold eaOK at h
  simpa [and_assoc] using h
theorem ea_may {y : Int} (h0 : 1970 ≤ y) (h1 : y ≤ 9999) : May y (eaM y) (eaD y) := by
  rcases (ea_in h0 h1).1 with ⟨e, h2, h3⟩ | ⟨e, h2, h3⟩
  · rw [e]; exact ⟨h0, h1, by omega, by omega, by omega, by simpa [dlen, mlen] using h3⟩
  · rw [e]; exact ⟨h0, h1, by omega, by omega, by omega, Int.le_trans h3 (by simp [dlen, mlen])⟩
/-- Easter Sunday lies from day 80 to day 116 of its year, counted from 0. -/
theorem ea_day {y : Int} (h0 : 1970 ≤ y) (h1 : y ≤ 9999) : ahead y + 80 ≤ eaDay y ∧ eaDay y ≤ ahead y + 115 := by
  have hl := lp_le y
  rcases (ea_in h0 h1).1 with ⟨e, h2, h3⟩ | ⟨e, h2, h3⟩ <;> unfold eaDay dayOf <;> rw [e] <;> simp [bef, cum] <;> omega
/-! The days of one holiday in a year. -/
def yd (y Y M D : Int) : List Int := if May Y M D ∧ Y = y then [dayOf Y M D] else []
def PaIn (y e n : Int) : Prop := (1970 ≤ e ∧ e ≤ 9999) ∧ ahead y ≤ eaDay e + n ∧ eaDay e + n < ahead (y + 1)
instance (y e n : Int) : Decidable (PaIn y e n) := by unfold PaIn; infer_instance
def pd (y e n : Int) : List Int := if PaIn y e n then [eaDay e + n] else []
def wd (y m w n : Int) : List Int := if NthIs y m w n then [dayOf y m (nthD y m w n)] else []
def hoDays (h : Ho) (y : Int) : List Int :=
  if h.k = 1 then yd y y h.m h.d else if h.k = 2 then yd y h.y h.m h.d else if h.k = 3 then wd y h.m h.w h.n else if h.k = 4 then pd y y h.n ++ pd y (y + 1) h.n else []
/-- The days of the first k holidays. -/
def hds (H : Nat → Ho) (y : Int) : Nat → List Int
  | 0 => []
  | k + 1 => hds H y k ++ hoDays (H k) y
theorem mem_hds {H : Nat → Ho} {y x : Int} : ∀ {k : Nat}, x ∈ hds H y k ↔ ∃ i, i < k ∧ x ∈ hoDays (H i) y
  | 0 => by simp [hds]
  | k + 1 => by
    rw [hds, List.mem_append, mem_hds]
    constructor
    · rintro (⟨i, hi, h⟩ | h)
      · exact ⟨i, by omega, h⟩
      · exact ⟨k, by omega, h⟩
    · rintro ⟨i, hi, h⟩
      rcases Nat.lt_succ_iff_lt_or_eq.1 hi with hl | rfl
      · exact .inl ⟨i, hl, h⟩
      · exact .inr h
theorem yd_len (y Y M D : Int) : (yd y Y M D).length ≤ 1 := by unfold yd; split <;> simp
theorem pd_len (y e n : Int) : (pd y e n).length ≤ 1 := by unfold pd; split <;> simp
theorem wd_len (y m w n : Int) : (wd y m w n).length ≤ 1 := by unfold wd; split <;> simp
theorem ho_len (h : Ho) (y : Int) : (hoDays h y).length ≤ 2 := by
  unfold hoDays
  have := yd_len y y h.m h.d; have := yd_len y h.y h.m h.d; have := pd_len y y h.n; have := pd_len y (y + 1) h.n; have := wd_len y h.m h.w h.n
  split
  · omega
  · split
    · omega
    · split
      · omega
      · split
        · rw [List.length_append]; omega
        · simp
theorem hds_len (H : Nat → Ho) (y : Int) : ∀ k : Nat, (hds H y k).length ≤ 2 * k
  | 0 => by simp [hds]
  | k + 1 => by rw [hds, List.length_append]; have := hds_len H y k; have := ho_len (H k) y; omega
/-- The days that a holiday has in a year lie in it. -/
theorem ho_in {h : Ho} {y x : Int} (hy0 : 1970 ≤ y) (hy1 : y ≤ 9999) (hx : x ∈ hoDays h y) : ahead y ≤ x ∧ x < ahead (y + 1) := by
  have hyd : ∀ Y M D, x ∈ yd y Y M D → ahead y ≤ x ∧ x < ahead (y + 1) := by
    intro Y M D h
    unfold yd at h
    split at h
    · rename_i hm
      rw [List.mem_singleton] at h
      obtain ⟨h1, rfl⟩ := hm
      rw [h]; exact in_year h1
    · cases h
  have hpd : ∀ e n, x ∈ pd y e n → ahead y ≤ x ∧ x < ahead (y + 1) := by
    intro e n h
    unfold pd at h
    split at h
    · rename_i hm
      rw [List.mem_singleton] at h
      rw [h]; exact hm.2
    · cases h
  unfold hoDays at hx
  split at hx
  · exact hyd _ _ _ hx
  · split at hx
    · exact hyd _ _ _ hx
    · split at hx
      · unfold wd at hx
        split at hx
        · rename_i hm
          rw [List.mem_singleton] at hx
          obtain ⟨hm1, hw, hn⟩ := hm
          rw [hx]
          have hf := nthF_bounds y h.m h.w
          have hdl := dlen_ge (y := y) (m := h.m) hm1.2.2.1 hm1.2.2.2.1
          refine in_year ⟨hm1.1, hm1.2.1, hm1.2.2.1, hm1.2.2.2.1, ?_, ?_⟩
          · unfold nthD; split <;> omega
          · rcases hn with hn | ⟨a, b, c⟩
            · unfold nthD; rw [if_pos hn]; omega
            · exact c
        · cases hx
      · split at hx
        · rcases List.mem_append.1 hx with h | h
          · exact hpd _ _ h
          · exact hpd _ _ h
        · cases hx
theorem year_days {y : Int} (hy0 : 1970 ≤ y) (hy1 : y ≤ 9999) : 0 ≤ ahead y ∧ ahead y + 365 ≤ ahead (y + 1) ∧ ahead (y + 1) ≤ ahead y + 366 ∧ ahead (y + 1) ≤ 2932897 := by
  have a := ahead_le (a := 1970) (b := y) hy0
  have b := ahead_le (a := y + 1) (b := 10000) (by omega)
  have c := ahead_succ (y := y) (by omega)
  have d := lp_le y
  rw [ahead_1970] at a
  rw [ahead_10000] at b
  omega
theorem hds_in {H : Nat → Ho} {y x : Int} {k : Nat} (hy0 : 1970 ≤ y) (hy1 : y ≤ 9999) (hx : x ∈ hds H y k) : ahead y ≤ x ∧ x < ahead (y + 1) := by
  obtain ⟨i, _, h⟩ := mem_hds.1 hx
  exact ho_in hy0 hy1 h
/-- A day's year, by the ends. -/
theorem year_of_date {x y m d Y : Int} (h : IsDate x y m d) (h0 : ahead Y ≤ x) (h1 : x < ahead (Y + 1)) : Y = y := by
  have a := in_year h.1
  rw [← h.2] at a
  rcases Int.lt_trichotomy Y y with hl | rfl | hl
  · have := ahead_le (a := Y + 1) (b := y) (by omega); omega
  · rfl
  · have := ahead_le (a := y + 1) (b := Y) (by omega); omega
/-- The kind of a day. -/
def kindW (x : Int) : Int := if wkday x = 7 then 3 else if wkday x = 6 then 2 else 1
def kindB (x : Int) (f : Bool) : Int := if f then 4 else kindW x
/-- The season. -/
def SeaIs (S : Nat → Se) (sl : Nat) (now r : Int) : Prop :=
  (sl = 0 ∧ r = 0) ∨ ∃ i, i < sl ∧ (S i).n = r ∧ ((bgn (S i).m (S i).d ≤ now ∧ ∀ j, j < sl → bgn (S j).m (S j).d ≤ now → bgn (S j).m (S j).d ≤ bgn (S i).m (S i).d) ∨
    ((∀ j, j < sl → now < bgn (S j).m (S j).d) ∧ ∀ j, j < sl → bgn (S j).m (S j).d ≤ bgn (S i).m (S i).d))
theorem se_bounds {s : Se} (h : SeIs s) : (1 ≤ s.m ∧ s.m ≤ 12) ∧ (1 ≤ s.d ∧ s.d ≤ 31) := by
  obtain ⟨_, h1, h2, h3, h4, h5, h6⟩ := h
  have := dlen_bounds (y := 2001) (m := s.m)
  omega
theorem bgn_inj {S : Nat → Se} {sl : Nat} (hs : ∀ i, i < sl → SeIs (S i)) (ha : Apart S sl) {i j : Nat} (hi : i < sl) (hj : j < sl) (e : bgn (S i).m (S i).d = bgn (S j).m (S j).d) : i = j := by
  have b1 := se_bounds (hs i hi)
  have b2 := se_bounds (hs j hj)
  unfold bgn at e
  rcases Nat.lt_trichotomy i j with h | h | h
  · exact absurd ⟨by omega, by omega⟩ (ha j hj i h)
  · exact h
  · exact absurd ⟨by omega, by omega⟩ (ha i hi j h)
theorem SeaIs.unique {S : Nat → Se} {sl : Nat} {now r r' : Int} (hs : ∀ i, i < sl → SeIs (S i)) (ha : Apart S sl) (h : SeaIs S sl now r) (h' : SeaIs S sl now r') : r = r' := by
  rcases h with ⟨e, rfl⟩ | ⟨i, hi, rfl, h⟩
  · rcases h' with ⟨_, rfl⟩ | ⟨j, hj, _⟩
    · rfl
    · omega
  · rcases h' with ⟨e, _⟩ | ⟨j, hj, rfl, h'⟩
    · omega
    · have : bgn (S i).m (S i).d = bgn (S j).m (S j).d := by
        rcases h with ⟨a, b⟩ | ⟨a, b⟩ <;> rcases h' with ⟨c, d⟩ | ⟨c, d⟩
        · have := b j hj c; have := d i hi a; omega
        · have := c i hi; omega
        · have := a j hj; omega
        · have := b j hj; have := d i hi; omega
      rw [bgn_inj hs ha hi hj this]
end Go.Proofs.YtbffmobjiiicoaaDoor.H8
end
section
/- Contracts of the small functions of days, and of Easter. -/
set_option linter.unusedVariables false
set_option linter.unusedSimpArgs false
namespace Go.Proofs.YtbffmobjiiicoaaDoor.H8
open Go.RowKit Go.Shelf
theorem isFrom_any (n a b : Int) (w : World) :
    Calls Tryd.prog 78 #[.int .i64 n, .int .i64 a, .int .i64 b] w fun e w' => e = .returned (.bool (decide (a ≤ n ∧ n ≤ b))) ∧ w = w' := by
  by_cases h0 : a ≤ n <;> by_cases h1 : n ≤ b
  · rw [show decide (a ≤ n ∧ n ≤ b) = true from decide_eq_true ⟨h0, h1⟩]
    go_enter Tryd.func78, Tryd.ntmps78
    go_wp2
    go_ret
    exact ⟨rfl, rfl⟩
  · rw [show decide (a ≤ n ∧ n ≤ b) = false from decide_eq_false (by omega)]
    go_enter Tryd.func78, Tryd.ntmps78
    go_wp2
    go_ret
    exact ⟨rfl, rfl⟩
  · rw [show decide (a ≤ n ∧ n ≤ b) = false from decide_eq_false (by omega)]
    go_enter Tryd.func78, Tryd.ntmps78
    go_wp2
    go_ret
    exact ⟨rfl, rfl⟩
  · rw [show decide (a ≤ n ∧ n ≤ b) = false from decide_eq_false (by omega)]
    go_enter Tryd.func78, Tryd.ntmps78
    go_wp2
    go_ret
    exact ⟨rfl, rfl⟩
theorem isYear_any (y : Int) (w : World) :
    Calls Tryd.prog 100 #[.int .i64 y] w fun e w' => e = .returned (.bool (decide (1970 ≤ y ∧ y ≤ 9999))) ∧ w = w' := by
  go_enter Tryd.func100, Tryd.ntmps100
  go_wp2_with (go_at_call 78; refine (isFrom_any _ _ _ _).mono ?_; rintro e w' ⟨rfl, rfl⟩)
  go_ret
  exact ⟨by simp, rfl⟩
theorem beginOn_any (m d : Int) (h1 : 1 ≤ m ∧ m ≤ 12) (h2 : 1 ≤ d ∧ d ≤ 31) (w : World) :
    Calls Tryd.prog 51 #[.int .i64 m, .int .i64 d] w fun e w' => e = .returned (.int .i64 (bgn m d)) ∧ w = w' := by
  unfold bgn
  go_enter Tryd.func51, Tryd.ntmps51
  go_wp2
  go_ret
  exact ⟨rfl, rfl⟩
theorem kindOf_yes (x : Int) (w : World) :
    Calls Tryd.prog 53 #[.int .i64 x, .bool true] w fun e w' => e = .returned (.int .i64 4) ∧ w = w' := by
  go_enter Tryd.func53, Tryd.ntmps53
  go_wp2_with (go_at_call 74; refine (weekday_any _ _).mono ?_; rintro e w' ⟨rfl, rfl⟩)
  go_ret
  exact ⟨rfl, rfl⟩
theorem kindOf_no (x : Int) (h0 : 0 ≤ x) (h1 : x ≤ 2932896) (w : World) :
    Calls Tryd.prog 53 #[.int .i64 x, .bool false] w fun e w' => e = .returned (.int .i64 (kindW x)) ∧ w = w' := by
  have hk := wkB_in h0 h1
  unfold kindW
  rw [← hk]
  by_cases c7 : wkB x = 7
  · rw [if_pos c7]
    go_enter Tryd.func53, Tryd.ntmps53
    go_wp2_with (go_at_call 74; refine (weekday_any _ _).mono ?_; rintro e w' ⟨rfl, rfl⟩)
    go_ret
    exact ⟨rfl, rfl⟩
  · rw [if_neg c7]
    by_cases c6 : wkB x = 6
    · rw [if_pos c6]
      go_enter Tryd.func53, Tryd.ntmps53
      go_wp2_with (go_at_call 74; refine (weekday_any _ _).mono ?_; rintro e w' ⟨rfl, rfl⟩)
      go_ret
      exact ⟨rfl, rfl⟩
    · rw [if_neg c6]
      go_enter Tryd.func53, Tryd.ntmps53
      go_wp2_with (go_at_call 74; refine (weekday_any _ _).mono ?_; rintro e w' ⟨rfl, rfl⟩)
      go_ret
      exact ⟨rfl, rfl⟩
theorem kindOf_any (x : Int) (f : Bool) (h0 : 0 ≤ x) (h1 : x ≤ 2932896) (w : World) :
    Calls Tryd.prog 53 #[.int .i64 x, .bool f] w fun e w' => e = .returned (.int .i64 (kindB x f)) ∧ w = w' := by
  cases f
  · exact kindOf_no x h0 h1 w
  · exact kindOf_yes x w
theorem results_easter {y m d e : Int} {b : Nat} {tmps : Array Value} {w : World} (h2 : tmps.getD 2 undef = .pointer (some ⟨b, 0, none⟩)) (h3 : tmps.getD 3 undef = .int .i64 e)
    (hb : w.heap[b]? = some (.cells #[.int .i64 y, .int .i64 m, .int .i64 d] 110 (0, 0))) : (results Tryd.f98 tmps).run Tryd.prog w = .ok (.tuple #[dateV y m d, .int .i64 e]) w := by
  have c0 : w.cell? ⟨b, 0, none⟩ = some (.int .i64 y) := cell_of_row w b 0 _ _ _ hb
  have c1 : w.cell? ⟨b, 1, none⟩ = some (.int .i64 m) := cell_of_row w b 1 _ _ _ hb
  have c2 : w.cell? ⟨b, 2, none⟩ = some (.int .i64 d) := cell_of_row w b 2 _ _ _ hb
  simp only [Array.getD_eq_getD_getElem?] at h2 h3
  simp [results, Tryd.results98, go_sem, h2, h3, c0, c1, c2, dateV]
theorem easter_no (y : Int) (h : ¬ (1970 ≤ y ∧ y ≤ 9999)) (w : World) :
    Calls Tryd.prog 98 #[.int .i64 y] w fun e w' => e = .returned (.tuple #[dateV 0 0 0, .int .i64 60]) ∧ Below w.heap.size w w' := by
  have hr := heap_alloc_new w (.cells #[.int .i64 0, .int .i64 0, .int .i64 0] 110)
  have HB := Lib.hid ((Below.refl _ w).alloc (Nat.le_refl _) (.cells #[.int .i64 0, .int .i64 0, .int .i64 0] 110))
  have hy : decide (1970 ≤ y ∧ y ≤ 9999) = false := decide_eq_false h
  have f0 := frozen_of_row _ w.heap.size 0 _ _ hr
  have f1 := frozen_of_row _ w.heap.size 1 _ _ hr
  have f2 := frozen_of_row _ w.heap.size 2 _ _ hr
  have a0 : (w.alloc (.cells #[.int .i64 0, .int .i64 0, .int .i64 0] 110)).cell? ⟨w.heap.size, 0, none⟩ = some (.int .i64 0) := cell_of_row _ w.heap.size 0 _ _ _ hr
  have a1 : (w.alloc (.cells #[.int .i64 0, .int .i64 0, .int .i64 0] 110)).cell? ⟨w.heap.size, 1, none⟩ = some (.int .i64 0) := cell_of_row _ w.heap.size 1 _ _ _ hr
  have a2 : (w.alloc (.cells #[.int .i64 0, .int .i64 0, .int .i64 0] 110)).cell? ⟨w.heap.size, 2, none⟩ = some (.int .i64 0) := cell_of_row _ w.heap.size 2 _ _ _ hr
  have HR := Lib.hid hr
  clear hr h
  go_enter Tryd.func98, Tryd.ntmps98
  go_wp2_with (go_at_call 100; refine (isYear_any _ _).mono ?_; rintro e w' ⟨rfl, rfl⟩; rw [hy])
  refine bodyPost_ret (results_easter rfl rfl HR.out) rfl ?_
  exact ⟨rfl, HB.out⟩
set_option maxRecDepth 100000 in
set_option maxHeartbeats 2000000 in
theorem easter_yes (y : Int) (h0 : 1970 ≤ y) (h1 : y ≤ 9999) (w : World) :
    Calls Tryd.prog 98 #[.int .i64 y] w fun e w' => e = .returned (.tuple #[dateV y (eaM y) (eaD y), .int .i64 0]) ∧ Below w.heap.size w w' := by
  have hr := heap_alloc_new w (.cells #[.int .i64 0, .int .i64 0, .int .i64 0] 110)
  have HB := Lib.hid ((Below.refl _ w).alloc (Nat.le_refl _) (.cells #[.int .i64 0, .int .i64 0, .int .i64 0] 110))
  have hy : decide (1970 ≤ y ∧ y ≤ 9999) = true := decide_eq_true ⟨h0, h1⟩
  have f0 := frozen_of_row _ w.heap.size 0 _ _ hr
  have f1 := frozen_of_row _ w.heap.size 1 _ _ hr
  have f2 := frozen_of_row _ w.heap.size 2 _ _ hr
  have a0 : (w.alloc (.cells #[.int .i64 0, .int .i64 0, .int .i64 0] 110)).cell? ⟨w.heap.size, 0, none⟩ = some (.int .i64 0) := cell_of_row _ w.heap.size 0 _ _ _ hr
  have a1 : (w.alloc (.cells #[.int .i64 0, .int .i64 0, .int .i64 0] 110)).cell? ⟨w.heap.size, 1, none⟩ = some (.int .i64 0) := cell_of_row _ w.heap.size 1 _ _ _ hr
  have a2 : (w.alloc (.cells #[.int .i64 0, .int .i64 0, .int .i64 0] 110)).cell? ⟨w.heap.size, 2, none⟩ = some (.int .i64 0) := cell_of_row _ w.heap.size 2 _ _ _ hr
  have HR := Lib.hid hr
  have HY := Lib.hid hy
  clear hr hy
  go_enter Tryd.func98, Tryd.ntmps98
  go_wp2_with (go_at_call 100; refine (isYear_any _ _).mono ?_; rintro e w' ⟨rfl, rfl⟩; rw [HY.out])
  refine bodyPost_ret (results_easter rfl rfl (heap_alloc_new w _)) rfl ?_
  have e4 : y % 100 % 4 = y % 4 := by omega
  refine ⟨?_, (Below.refl _ w).alloc (Nat.le_refl _) _⟩
  simp only [eaM, eaD, eaN, eaL, eaH, e4]
end Go.Proofs.YtbffmobjiiicoaaDoor.H8
end
section
/- Contracts of stripped, isHoliday and isSeason. -/
set_option linter.unusedVariables false
set_option linter.unusedSimpArgs false
namespace Go.Proofs.YtbffmobjiiicoaaDoor.H8
open Go.RowKit Go.Shelf
abbrev hoV (h : Ho) : Value := .agg #[.int .i64 h.k, .int .i64 h.y, .int .i64 h.m, .int .i64 h.d, .int .i64 h.w, .int .i64 h.n]
abbrev hoC (k y m d w n : Int) : Array Value := #[.int .i64 k, .int .i64 y, .int .i64 m, .int .i64 d, .int .i64 w, .int .i64 n]
/-- A holiday with no more than the fields that its kind has. -/
def strip (h : Ho) : Ho :=
  if h.k = 2 then ⟨2, h.y, h.m, h.d, 0, 0⟩ else if h.k = 1 then ⟨1, 0, h.m, h.d, 0, 0⟩ else if h.k = 3 then ⟨3, 0, h.m, 0, h.w, h.n⟩ else if h.k = 4 then ⟨4, 0, 0, 0, 0, h.n⟩ else ⟨h.k, 0, 0, 0, 0, 0⟩
theorem results_strip {a b c d e f : Int} {B : Nat} {tmps : Array Value} {w : World} (h2 : tmps.getD 2 undef = .pointer (some ⟨B, 0, none⟩))
    (hb : w.heap[B]? = some (.cells (hoC a b c d e f) 132 (0, 0))) : (results Tryd.f76 tmps).run Tryd.prog w = .ok (.agg (hoC a b c d e f)) w := by
  have c0 : w.cell? ⟨B, 0, none⟩ = some (.int .i64 a) := cell_of_row w B 0 _ _ _ hb
  have c1 : w.cell? ⟨B, 1, none⟩ = some (.int .i64 b) := cell_of_row w B 1 _ _ _ hb
  have c2 : w.cell? ⟨B, 2, none⟩ = some (.int .i64 c) := cell_of_row w B 2 _ _ _ hb
  have c3 : w.cell? ⟨B, 3, none⟩ = some (.int .i64 d) := cell_of_row w B 3 _ _ _ hb
  have c4 : w.cell? ⟨B, 4, none⟩ = some (.int .i64 e) := cell_of_row w B 4 _ _ _ hb
  have c5 : w.cell? ⟨B, 5, none⟩ = some (.int .i64 f) := cell_of_row w B 5 _ _ _ hb
  simp only [Array.getD_eq_getD_getElem?] at h2
  simp [results, Tryd.results76, go_sem, h2, c0, c1, c2, c3, c4, c5]
set_option maxRecDepth 100000 in
set_option maxHeartbeats 2000000 in
theorem stripped_4 (y m d v n : Int) (w : World) :
    Calls Tryd.prog 76 #[.agg (hoC 4 y m d v n)] w fun e w' => e = .returned (.agg (hoC 4 0 0 0 0 n)) ∧ Below w.heap.size w w' := by
  go_enter Tryd.func76, Tryd.ntmps76
  go_wp2
  have e1 : w.heap.size + 1 = (w.alloc (.cells (hoC 4 y m d v n) 132)).heap.size := by rw [World.size_alloc]
  refine bodyPost_ret (results_strip rfl (heap_old (by rw [e1]; exact heap_alloc_new _ _) _)) rfl ?_
  exact ⟨rfl, (((Below.refl _ w).alloc (Nat.le_refl _) _).alloc (by simp) _).alloc (by simp; omega) _⟩
set_option maxRecDepth 100000 in
set_option maxHeartbeats 2000000 in
theorem stripped_0 (k y m d v n : Int) (h1 : k ≠ 1) (h2 : k ≠ 2) (h3 : k ≠ 3) (h4 : k ≠ 4) (w : World) :
    Calls Tryd.prog 76 #[.agg (hoC k y m d v n)] w fun e w' => e = .returned (.agg (hoC k 0 0 0 0 0)) ∧ Below w.heap.size w w' := by
  go_enter Tryd.func76, Tryd.ntmps76
  go_wp2
  have e1 : w.heap.size + 1 = (w.alloc (.cells (hoC k y m d v n) 132)).heap.size := by rw [World.size_alloc]
  refine bodyPost_ret (results_strip rfl (heap_old (by rw [e1]; exact heap_alloc_new _ _) _)) rfl ?_
  exact ⟨rfl, (((Below.refl _ w).alloc (Nat.le_refl _) _).alloc (by simp) _).alloc (by simp; omega) _⟩
theorem set6 {Z : World} {B : Nat} (h : Z.heap[B]? = some (.cells (hoC 0 0 0 0 0 0) 132 (0, 0))) (a b c d e f : Int) :
    ((((((Z.setCell ⟨B, 0, none⟩ (.int .i64 a)).setCell ⟨B, 1, none⟩ (.int .i64 b)).setCell ⟨B, 2, none⟩ (.int .i64 c)).setCell ⟨B, 3, none⟩ (.int .i64 d)).setCell ⟨B, 4, none⟩ (.int .i64 e)).setCell ⟨B, 5, none⟩ (.int .i64 f)).heap[B]? = some (.cells (hoC a b c d e f) 132 (0, 0)) :=
  heap_setCell_same _ B 5 _ _ _ (heap_setCell_same _ B 4 _ _ _ (heap_setCell_same _ B 3 _ _ _ (heap_setCell_same _ B 2 _ _ _ (heap_setCell_same _ B 1 _ _ _ (heap_setCell_same _ B 0 _ _ _ h)))))
theorem set6_below {Z w : World} {B n : Nat} (h : Below n w Z) (hB : n ≤ B) (a b c d e f : Int) :
    Below n w ((((((Z.setCell ⟨B, 0, none⟩ (.int .i64 a)).setCell ⟨B, 1, none⟩ (.int .i64 b)).setCell ⟨B, 2, none⟩ (.int .i64 c)).setCell ⟨B, 3, none⟩ (.int .i64 d)).setCell ⟨B, 4, none⟩ (.int .i64 e)).setCell ⟨B, 5, none⟩ (.int .i64 f)) :=
  (((((h.setCell (p := ⟨B, 0, none⟩) hB _).setCell (p := ⟨B, 1, none⟩) hB _).setCell (p := ⟨B, 2, none⟩) hB _).setCell (p := ⟨B, 3, none⟩) hB _).setCell (p := ⟨B, 4, none⟩) hB _).setCell (p := ⟨B, 5, none⟩) hB _
set_option maxRecDepth 100000 in
set_option maxHeartbeats 2000000 in
theorem stripped_2 (y m d v n : Int) (w : World) :
    Calls Tryd.prog 76 #[.agg (hoC 2 y m d v n)] w fun e w' => e = .returned (.agg (hoC 2 y m d 0 0)) ∧ Below w.heap.size w w' := by
  go_enter Tryd.func76, Tryd.ntmps76
  go_wp2
  have e1 : w.heap.size + 1 = (w.alloc (.cells (hoC 2 y m d v n) 132)).heap.size := by rw [World.size_alloc]
  have e2 : w.heap.size + 1 + 1 = ((w.alloc (.cells (hoC 2 y m d v n) 132)).alloc (.cells (hoC 0 0 0 0 0 0) 132)).heap.size := by rw [World.size_alloc, World.size_alloc]
  have r0 : (((w.alloc (.cells (hoC 2 y m d v n) 132)).alloc (.cells (hoC 0 0 0 0 0 0) 132)).alloc (.cells (hoC 2 y 0 0 0 0) 132)).heap[w.heap.size]? = some (.cells (hoC 2 y m d v n) 132) := heap_old (heap_old (heap_alloc_new w _) _) _
  have r1 : (((w.alloc (.cells (hoC 2 y m d v n) 132)).alloc (.cells (hoC 0 0 0 0 0 0) 132)).alloc (.cells (hoC 2 y 0 0 0 0) 132)).heap[w.heap.size + 1]? = some (.cells (hoC 0 0 0 0 0 0) 132) := heap_old (by rw [e1]; exact heap_alloc_new _ _) _
  have r2 : (((w.alloc (.cells (hoC 2 y m d v n) 132)).alloc (.cells (hoC 0 0 0 0 0 0) 132)).alloc (.cells (hoC 2 y 0 0 0 0) 132)).heap[w.heap.size + 1 + 1]? = some (.cells (hoC 2 y 0 0 0 0) 132) := by rw [e2]; exact heap_alloc_new _ _
  have hb : Below w.heap.size w (((w.alloc (.cells (hoC 2 y m d v n) 132)).alloc (.cells (hoC 0 0 0 0 0 0) 132)).alloc (.cells (hoC 2 y 0 0 0 0) 132)) := (((Below.refl _ w).alloc (Nat.le_refl _) _).alloc (by simp) _).alloc (by simp; omega) _
  generalize (((w.alloc (.cells (hoC 2 y m d v n) 132)).alloc (.cells (hoC 0 0 0 0 0 0) 132)).alloc (.cells (hoC 2 y 0 0 0 0) 132)) = X at r0 r1 r2 hb ⊢
  have a1 : X.cell? ⟨w.heap.size, 2, none⟩ = some (.int .i64 m) := cell_of_row X _ 2 _ _ _ r0
  have a2 : X.cell? ⟨w.heap.size, 3, none⟩ = some (.int .i64 d) := cell_of_row X _ 3 _ _ _ r0
  have g1 : X.cell? ⟨w.heap.size + 1 + 1, 2, none⟩ = some (.int .i64 0) := cell_of_row X _ 2 _ _ _ r2
  have g2 : X.cell? ⟨w.heap.size + 1 + 1, 3, none⟩ = some (.int .i64 0) := cell_of_row X _ 3 _ _ _ r2
  have b1 := frozen_of_row X (w.heap.size + 1 + 1) 2 _ _ r2
  have b2 := frozen_of_row X (w.heap.size + 1 + 1) 3 _ _ r2
  have q2 : ((X.setCell ⟨w.heap.size + 1 + 1, 2, none⟩ (.int .i64 m)).setCell ⟨w.heap.size + 1 + 1, 3, none⟩ (.int .i64 d)).drew.heap[w.heap.size + 1 + 1]? = some (.cells (hoC 2 y m d 0 0) 132) := heap_setCell_same (X.setCell ⟨w.heap.size + 1 + 1, 2, none⟩ (.int .i64 m)) (w.heap.size + 1 + 1) 3 _ _ (.int .i64 d) (heap_setCell_same X (w.heap.size + 1 + 1) 2 _ _ (.int .i64 m) r2)
  have q1 : ((X.setCell ⟨w.heap.size + 1 + 1, 2, none⟩ (.int .i64 m)).setCell ⟨w.heap.size + 1 + 1, 3, none⟩ (.int .i64 d)).drew.heap[w.heap.size + 1]? = some (.cells (hoC 0 0 0 0 0 0) 132) := (heap_setCell_other _ ⟨w.heap.size + 1 + 1, 3, none⟩ (w.heap.size + 1) _ (by simp)).trans ((heap_setCell_other X ⟨w.heap.size + 1 + 1, 2, none⟩ (w.heap.size + 1) _ (by simp)).trans r1)
  have hbq : Below w.heap.size w ((X.setCell ⟨w.heap.size + 1 + 1, 2, none⟩ (.int .i64 m)).setCell ⟨w.heap.size + 1 + 1, 3, none⟩ (.int .i64 d)).drew := ((hb.setCell (p := ⟨w.heap.size + 1 + 1, 2, none⟩) (by simp; omega) _).setCell (p := ⟨w.heap.size + 1 + 1, 3, none⟩) (by simp; omega) _).drew
  have Q2 := Lib.hid q2
  have Q1 := Lib.hid q1
  have HB := Lib.hid hbq
  clear r0 r1 r2 hb e1 e2 q1 q2 hbq
  go_region
  generalize ((X.setCell ⟨w.heap.size + 1 + 1, 2, none⟩ (.int .i64 m)).setCell ⟨w.heap.size + 1 + 1, 3, none⟩ (.int .i64 d)).drew = Z at Q2 Q1 HB ⊢
  clear g1 g2
  have q2 : Z.heap[w.heap.size + 1 + 1]? = some (.cells (hoC 2 y m d 0 0) 132) := Q2.out
  have c0 : Z.cell? ⟨w.heap.size + 1 + 1, 0, none⟩ = some (.int .i64 2) := cell_of_row Z _ 0 _ _ _ q2
  have c1 : Z.cell? ⟨w.heap.size + 1 + 1, 1, none⟩ = some (.int .i64 y) := cell_of_row Z _ 1 _ _ _ q2
  have c2 : Z.cell? ⟨w.heap.size + 1 + 1, 2, none⟩ = some (.int .i64 m) := cell_of_row Z _ 2 _ _ _ q2
  have c3 : Z.cell? ⟨w.heap.size + 1 + 1, 3, none⟩ = some (.int .i64 d) := cell_of_row Z _ 3 _ _ _ q2
  have c4 : Z.cell? ⟨w.heap.size + 1 + 1, 4, none⟩ = some (.int .i64 0) := cell_of_row Z _ 4 _ _ _ q2
  have c5 : Z.cell? ⟨w.heap.size + 1 + 1, 5, none⟩ = some (.int .i64 0) := cell_of_row Z _ 5 _ _ _ q2
  have g0 : Z.cell? ⟨w.heap.size + 1, 0, none⟩ = some (.int .i64 0) := cell_of_row Z _ 0 _ _ _ Q1.out
  have g1 : Z.cell? ⟨w.heap.size + 1, 1, none⟩ = some (.int .i64 0) := cell_of_row Z _ 1 _ _ _ Q1.out
  have g2 : Z.cell? ⟨w.heap.size + 1, 2, none⟩ = some (.int .i64 0) := cell_of_row Z _ 2 _ _ _ Q1.out
  have g3 : Z.cell? ⟨w.heap.size + 1, 3, none⟩ = some (.int .i64 0) := cell_of_row Z _ 3 _ _ _ Q1.out
  have g4 : Z.cell? ⟨w.heap.size + 1, 4, none⟩ = some (.int .i64 0) := cell_of_row Z _ 4 _ _ _ Q1.out
  have g5 : Z.cell? ⟨w.heap.size + 1, 5, none⟩ = some (.int .i64 0) := cell_of_row Z _ 5 _ _ _ Q1.out
  have f0 := frozen_of_row Z (w.heap.size + 1) 0 _ _ Q1.out
  have f1 := frozen_of_row Z (w.heap.size + 1) 1 _ _ Q1.out
  have f2 := frozen_of_row Z (w.heap.size + 1) 2 _ _ Q1.out
  have f3 := frozen_of_row Z (w.heap.size + 1) 3 _ _ Q1.out
  have f4 := frozen_of_row Z (w.heap.size + 1) 4 _ _ Q1.out
  have f5 := frozen_of_row Z (w.heap.size + 1) 5 _ _ Q1.out
  clear a1 a2 b1 b2 q2 Q2
  go_wp2
  refine bodyPost_ret (results_strip rfl (set6 Q1.out 2 y m d 0 0)) rfl ?_
  exact ⟨rfl, set6_below HB.out (by omega) 2 y m d 0 0⟩
set_option maxRecDepth 100000 in
set_option maxHeartbeats 2000000 in
theorem stripped_1 (y m d v n : Int) (w : World) :
    Calls Tryd.prog 76 #[.agg (hoC 1 y m d v n)] w fun e w' => e = .returned (.agg (hoC 1 0 m d 0 0)) ∧ Below w.heap.size w w' := by
  go_enter Tryd.func76, Tryd.ntmps76
  go_wp2
  have e1 : w.heap.size + 1 = (w.alloc (.cells (hoC 1 y m d v n) 132)).heap.size := by rw [World.size_alloc]
  have e2 : w.heap.size + 1 + 1 = ((w.alloc (.cells (hoC 1 y m d v n) 132)).alloc (.cells (hoC 0 0 0 0 0 0) 132)).heap.size := by rw [World.size_alloc, World.size_alloc]
  have r0 : (((w.alloc (.cells (hoC 1 y m d v n) 132)).alloc (.cells (hoC 0 0 0 0 0 0) 132)).alloc (.cells (hoC 1 0 0 0 0 0) 132)).heap[w.heap.size]? = some (.cells (hoC 1 y m d v n) 132) := heap_old (heap_old (heap_alloc_new w _) _) _
  have r1 : (((w.alloc (.cells (hoC 1 y m d v n) 132)).alloc (.cells (hoC 0 0 0 0 0 0) 132)).alloc (.cells (hoC 1 0 0 0 0 0) 132)).heap[w.heap.size + 1]? = some (.cells (hoC 0 0 0 0 0 0) 132) := heap_old (by rw [e1]; exact heap_alloc_new _ _) _
  have r2 : (((w.alloc (.cells (hoC 1 y m d v n) 132)).alloc (.cells (hoC 0 0 0 0 0 0) 132)).alloc (.cells (hoC 1 0 0 0 0 0) 132)).heap[w.heap.size + 1 + 1]? = some (.cells (hoC 1 0 0 0 0 0) 132) := by rw [e2]; exact heap_alloc_new _ _
  have hb : Below w.heap.size w (((w.alloc (.cells (hoC 1 y m d v n) 132)).alloc (.cells (hoC 0 0 0 0 0 0) 132)).alloc (.cells (hoC 1 0 0 0 0 0) 132)) := (((Below.refl _ w).alloc (Nat.le_refl _) _).alloc (by simp) _).alloc (by simp; omega) _
  generalize (((w.alloc (.cells (hoC 1 y m d v n) 132)).alloc (.cells (hoC 0 0 0 0 0 0) 132)).alloc (.cells (hoC 1 0 0 0 0 0) 132)) = X at r0 r1 r2 hb ⊢
  have a1 : X.cell? ⟨w.heap.size, 2, none⟩ = some (.int .i64 m) := cell_of_row X _ 2 _ _ _ r0
  have a2 : X.cell? ⟨w.heap.size, 3, none⟩ = some (.int .i64 d) := cell_of_row X _ 3 _ _ _ r0
  have g1 : X.cell? ⟨w.heap.size + 1 + 1, 2, none⟩ = some (.int .i64 0) := cell_of_row X _ 2 _ _ _ r2
  have g2 : X.cell? ⟨w.heap.size + 1 + 1, 3, none⟩ = some (.int .i64 0) := cell_of_row X _ 3 _ _ _ r2
  have b1 := frozen_of_row X (w.heap.size + 1 + 1) 2 _ _ r2
  have b2 := frozen_of_row X (w.heap.size + 1 + 1) 3 _ _ r2
  have q2 : ((X.setCell ⟨w.heap.size + 1 + 1, 2, none⟩ (.int .i64 m)).setCell ⟨w.heap.size + 1 + 1, 3, none⟩ (.int .i64 d)).drew.heap[w.heap.size + 1 + 1]? = some (.cells (hoC 1 0 m d 0 0) 132) := heap_setCell_same (X.setCell ⟨w.heap.size + 1 + 1, 2, none⟩ (.int .i64 m)) (w.heap.size + 1 + 1) 3 _ _ (.int .i64 d) (heap_setCell_same X (w.heap.size + 1 + 1) 2 _ _ (.int .i64 m) r2)
  have q1 : ((X.setCell ⟨w.heap.size + 1 + 1, 2, none⟩ (.int .i64 m)).setCell ⟨w.heap.size + 1 + 1, 3, none⟩ (.int .i64 d)).drew.heap[w.heap.size + 1]? = some (.cells (hoC 0 0 0 0 0 0) 132) := (heap_setCell_other _ ⟨w.heap.size + 1 + 1, 3, none⟩ (w.heap.size + 1) _ (by simp)).trans ((heap_setCell_other X ⟨w.heap.size + 1 + 1, 2, none⟩ (w.heap.size + 1) _ (by simp)).trans r1)
  have hbq : Below w.heap.size w ((X.setCell ⟨w.heap.size + 1 + 1, 2, none⟩ (.int .i64 m)).setCell ⟨w.heap.size + 1 + 1, 3, none⟩ (.int .i64 d)).drew := ((hb.setCell (p := ⟨w.heap.size + 1 + 1, 2, none⟩) (by simp; omega) _).setCell (p := ⟨w.heap.size + 1 + 1, 3, none⟩) (by simp; omega) _).drew
  have Q2 := Lib.hid q2
  have Q1 := Lib.hid q1
  have HB := Lib.hid hbq
  clear r0 r1 r2 hb e1 e2 q1 q2 hbq
  go_region
  generalize ((X.setCell ⟨w.heap.size + 1 + 1, 2, none⟩ (.int .i64 m)).setCell ⟨w.heap.size + 1 + 1, 3, none⟩ (.int .i64 d)).drew = Z at Q2 Q1 HB ⊢
  clear g1 g2
  have q2 : Z.heap[w.heap.size + 1 + 1]? = some (.cells (hoC 1 0 m d 0 0) 132) := Q2.out
  have c0 : Z.cell? ⟨w.heap.size + 1 + 1, 0, none⟩ = some (.int .i64 1) := cell_of_row Z _ 0 _ _ _ q2
  have c1 : Z.cell? ⟨w.heap.size + 1 + 1, 1, none⟩ = some (.int .i64 0) := cell_of_row Z _ 1 _ _ _ q2
  have c2 : Z.cell? ⟨w.heap.size + 1 + 1, 2, none⟩ = some (.int .i64 m) := cell_of_row Z _ 2 _ _ _ q2
  have c3 : Z.cell? ⟨w.heap.size + 1 + 1, 3, none⟩ = some (.int .i64 d) := cell_of_row Z _ 3 _ _ _ q2
  have c4 : Z.cell? ⟨w.heap.size + 1 + 1, 4, none⟩ = some (.int .i64 0) := cell_of_row Z _ 4 _ _ _ q2
  have c5 : Z.cell? ⟨w.heap.size + 1 + 1, 5, none⟩ = some (.int .i64 0) := cell_of_row Z _ 5 _ _ _ q2
  have g0 : Z.cell? ⟨w.heap.size + 1, 0, none⟩ = some (.int .i64 0) := cell_of_row Z _ 0 _ _ _ Q1.out
  have g1 : Z.cell? ⟨w.heap.size + 1, 1, none⟩ = some (.int .i64 0) := cell_of_row Z _ 1 _ _ _ Q1.out
  have g2 : Z.cell? ⟨w.heap.size + 1, 2, none⟩ = some (.int .i64 0) := cell_of_row Z _ 2 _ _ _ Q1.out
  have g3 : Z.cell? ⟨w.heap.size + 1, 3, none⟩ = some (.int .i64 0) := cell_of_row Z _ 3 _ _ _ Q1.out
  have g4 : Z.cell? ⟨w.heap.size + 1, 4, none⟩ = some (.int .i64 0) := cell_of_row Z _ 4 _ _ _ Q1.out
  have g5 : Z.cell? ⟨w.heap.size + 1, 5, none⟩ = some (.int .i64 0) := cell_of_row Z _ 5 _ _ _ Q1.out
  have f0 := frozen_of_row Z (w.heap.size + 1) 0 _ _ Q1.out
  have f1 := frozen_of_row Z (w.heap.size + 1) 1 _ _ Q1.out
  have f2 := frozen_of_row Z (w.heap.size + 1) 2 _ _ Q1.out
  have f3 := frozen_of_row Z (w.heap.size + 1) 3 _ _ Q1.out
  have f4 := frozen_of_row Z (w.heap.size + 1) 4 _ _ Q1.out
  have f5 := frozen_of_row Z (w.heap.size + 1) 5 _ _ Q1.out
  clear a1 a2 b1 b2 q2 Q2
  go_wp2
  refine bodyPost_ret (results_strip rfl (set6 Q1.out 1 0 m d 0 0)) rfl ?_
  exact ⟨rfl, set6_below HB.out (by omega) 1 0 m d 0 0⟩
set_option maxRecDepth 100000 in
set_option maxHeartbeats 2000000 in
theorem stripped_3 (y m d v n : Int) (w : World) :
    Calls Tryd.prog 76 #[.agg (hoC 3 y m d v n)] w fun e w' => e = .returned (.agg (hoC 3 0 m 0 v n)) ∧ Below w.heap.size w w' := by
  go_enter Tryd.func76, Tryd.ntmps76
  go_wp2
  have e1 : w.heap.size + 1 = (w.alloc (.cells (hoC 3 y m d v n) 132)).heap.size := by rw [World.size_alloc]
  have e2 : w.heap.size + 1 + 1 = ((w.alloc (.cells (hoC 3 y m d v n) 132)).alloc (.cells (hoC 0 0 0 0 0 0) 132)).heap.size := by rw [World.size_alloc, World.size_alloc]
  have r0 : (((w.alloc (.cells (hoC 3 y m d v n) 132)).alloc (.cells (hoC 0 0 0 0 0 0) 132)).alloc (.cells (hoC 3 0 0 0 0 0) 132)).heap[w.heap.size]? = some (.cells (hoC 3 y m d v n) 132) := heap_old (heap_old (heap_alloc_new w _) _) _
  have r1 : (((w.alloc (.cells (hoC 3 y m d v n) 132)).alloc (.cells (hoC 0 0 0 0 0 0) 132)).alloc (.cells (hoC 3 0 0 0 0 0) 132)).heap[w.heap.size + 1]? = some (.cells (hoC 0 0 0 0 0 0) 132) := heap_old (by rw [e1]; exact heap_alloc_new _ _) _
  have r2 : (((w.alloc (.cells (hoC 3 y m d v n) 132)).alloc (.cells (hoC 0 0 0 0 0 0) 132)).alloc (.cells (hoC 3 0 0 0 0 0) 132)).heap[w.heap.size + 1 + 1]? = some (.cells (hoC 3 0 0 0 0 0) 132) := by rw [e2]; exact heap_alloc_new _ _
  have hb : Below w.heap.size w (((w.alloc (.cells (hoC 3 y m d v n) 132)).alloc (.cells (hoC 0 0 0 0 0 0) 132)).alloc (.cells (hoC 3 0 0 0 0 0) 132)) := (((Below.refl _ w).alloc (Nat.le_refl _) _).alloc (by simp) _).alloc (by simp; omega) _
  generalize (((w.alloc (.cells (hoC 3 y m d v n) 132)).alloc (.cells (hoC 0 0 0 0 0 0) 132)).alloc (.cells (hoC 3 0 0 0 0 0) 132)) = X at r0 r1 r2 hb ⊢
  have a1 : X.cell? ⟨w.heap.size, 2, none⟩ = some (.int .i64 m) := cell_of_row X _ 2 _ _ _ r0
  have a2 : X.cell? ⟨w.heap.size, 4, none⟩ = some (.int .i64 v) := cell_of_row X _ 4 _ _ _ r0
  have g1 : X.cell? ⟨w.heap.size + 1 + 1, 2, none⟩ = some (.int .i64 0) := cell_of_row X _ 2 _ _ _ r2
  have g2 : X.cell? ⟨w.heap.size + 1 + 1, 4, none⟩ = some (.int .i64 0) := cell_of_row X _ 4 _ _ _ r2
  have b1 := frozen_of_row X (w.heap.size + 1 + 1) 2 _ _ r2
  have b2 := frozen_of_row X (w.heap.size + 1 + 1) 4 _ _ r2
  have q2 : ((X.setCell ⟨w.heap.size + 1 + 1, 2, none⟩ (.int .i64 m)).setCell ⟨w.heap.size + 1 + 1, 4, none⟩ (.int .i64 v)).drew.heap[w.heap.size + 1 + 1]? = some (.cells (hoC 3 0 m 0 v 0) 132) := heap_setCell_same (X.setCell ⟨w.heap.size + 1 + 1, 2, none⟩ (.int .i64 m)) (w.heap.size + 1 + 1) 4 _ _ (.int .i64 v) (heap_setCell_same X (w.heap.size + 1 + 1) 2 _ _ (.int .i64 m) r2)
  have q1 : ((X.setCell ⟨w.heap.size + 1 + 1, 2, none⟩ (.int .i64 m)).setCell ⟨w.heap.size + 1 + 1, 4, none⟩ (.int .i64 v)).drew.heap[w.heap.size + 1]? = some (.cells (hoC 0 0 0 0 0 0) 132) := (heap_setCell_other _ ⟨w.heap.size + 1 + 1, 4, none⟩ (w.heap.size + 1) _ (by simp)).trans ((heap_setCell_other X ⟨w.heap.size + 1 + 1, 2, none⟩ (w.heap.size + 1) _ (by simp)).trans r1)
  have hbq : Below w.heap.size w ((X.setCell ⟨w.heap.size + 1 + 1, 2, none⟩ (.int .i64 m)).setCell ⟨w.heap.size + 1 + 1, 4, none⟩ (.int .i64 v)).drew := ((hb.setCell (p := ⟨w.heap.size + 1 + 1, 2, none⟩) (by simp; omega) _).setCell (p := ⟨w.heap.size + 1 + 1, 4, none⟩) (by simp; omega) _).drew
  have x5 : ((X.setCell ⟨w.heap.size + 1 + 1, 2, none⟩ (.int .i64 m)).setCell ⟨w.heap.size + 1 + 1, 4, none⟩ (.int .i64 v)).drew.cell? ⟨w.heap.size, 5, none⟩ = some (.int .i64 n) := cell_of_row _ w.heap.size 5 _ _ _ ((heap_setCell_other _ ⟨w.heap.size + 1 + 1, 4, none⟩ w.heap.size _ (by simp; omega)).trans ((heap_setCell_other X ⟨w.heap.size + 1 + 1, 2, none⟩ w.heap.size _ (by simp; omega)).trans r0))
  have Q2 := Lib.hid q2
  have Q1 := Lib.hid q1
  have HB := Lib.hid hbq
  clear r0 r1 r2 hb e1 e2 q1 q2 hbq
  go_region
  generalize ((X.setCell ⟨w.heap.size + 1 + 1, 2, none⟩ (.int .i64 m)).setCell ⟨w.heap.size + 1 + 1, 4, none⟩ (.int .i64 v)).drew = Z at Q2 Q1 HB x5 ⊢
  clear g1 g2
  have q2 : Z.heap[w.heap.size + 1 + 1]? = some (.cells (hoC 3 0 m 0 v 0) 132) := Q2.out
  have c0 : Z.cell? ⟨w.heap.size + 1 + 1, 0, none⟩ = some (.int .i64 3) := cell_of_row Z _ 0 _ _ _ q2
  have c1 : Z.cell? ⟨w.heap.size + 1 + 1, 1, none⟩ = some (.int .i64 0) := cell_of_row Z _ 1 _ _ _ q2
  have c2 : Z.cell? ⟨w.heap.size + 1 + 1, 2, none⟩ = some (.int .i64 m) := cell_of_row Z _ 2 _ _ _ q2
  have c3 : Z.cell? ⟨w.heap.size + 1 + 1, 3, none⟩ = some (.int .i64 0) := cell_of_row Z _ 3 _ _ _ q2
  have c4 : Z.cell? ⟨w.heap.size + 1 + 1, 4, none⟩ = some (.int .i64 v) := cell_of_row Z _ 4 _ _ _ q2
  have c5 : Z.cell? ⟨w.heap.size + 1 + 1, 5, none⟩ = some (.int .i64 0) := cell_of_row Z _ 5 _ _ _ q2
  have g0 : Z.cell? ⟨w.heap.size + 1, 0, none⟩ = some (.int .i64 0) := cell_of_row Z _ 0 _ _ _ Q1.out
  have g1 : Z.cell? ⟨w.heap.size + 1, 1, none⟩ = some (.int .i64 0) := cell_of_row Z _ 1 _ _ _ Q1.out
  have g2 : Z.cell? ⟨w.heap.size + 1, 2, none⟩ = some (.int .i64 0) := cell_of_row Z _ 2 _ _ _ Q1.out
  have g3 : Z.cell? ⟨w.heap.size + 1, 3, none⟩ = some (.int .i64 0) := cell_of_row Z _ 3 _ _ _ Q1.out
  have g4 : Z.cell? ⟨w.heap.size + 1, 4, none⟩ = some (.int .i64 0) := cell_of_row Z _ 4 _ _ _ Q1.out
  have g5 : Z.cell? ⟨w.heap.size + 1, 5, none⟩ = some (.int .i64 0) := cell_of_row Z _ 5 _ _ _ Q1.out
  have y5 := frozen_of_row Z (w.heap.size + 1 + 1) 5 _ _ q2
  have f0 := frozen_of_row Z (w.heap.size + 1) 0 _ _ Q1.out
  have f1 := frozen_of_row Z (w.heap.size + 1) 1 _ _ Q1.out
  have f2 := frozen_of_row Z (w.heap.size + 1) 2 _ _ Q1.out
  have f3 := frozen_of_row Z (w.heap.size + 1) 3 _ _ Q1.out
  have f4 := frozen_of_row Z (w.heap.size + 1) 4 _ _ Q1.out
  have f5 := frozen_of_row Z (w.heap.size + 1) 5 _ _ Q1.out
  clear a1 a2 b1 b2 q2 Q2
  go_wp2
  have q1 : (Z.setCell ⟨w.heap.size + 1 + 1, 5, none⟩ (.int .i64 n)).heap[w.heap.size + 1]? = some (.cells (hoC 0 0 0 0 0 0) 132) := (heap_setCell_other Z ⟨w.heap.size + 1 + 1, 5, none⟩ (w.heap.size + 1) _ (by simp)).trans Q1.out
  refine bodyPost_ret (results_strip rfl (set6 q1 3 0 m 0 v n)) rfl ?_
  exact ⟨rfl, set6_below (HB.out.setCell (p := ⟨w.heap.size + 1 + 1, 5, none⟩) (by simp; omega) _) (by omega) 3 0 m 0 v n⟩
theorem stripped_any (h : Ho) (w : World) :
    Calls Tryd.prog 76 #[hoV h] w fun e w' => e = .returned (hoV (strip h)) ∧ Below w.heap.size w w' := by
  obtain ⟨k, y, m, d, v, n⟩ := h
  unfold strip
  by_cases h2 : k = 2
  · subst h2; exact stripped_2 y m d v n w
  · by_cases h1 : k = 1
    · subst h1; exact stripped_1 y m d v n w
    · by_cases h3 : k = 3
      · subst h3; exact stripped_3 y m d v n w
      · by_cases h4 : k = 4
        · subst h4; exact stripped_4 y m d v n w
        · simp only [h1, h2, h3, h4, if_false]
          exact stripped_0 k y m d v n h1 h2 h3 h4 w
end Go.Proofs.YtbffmobjiiicoaaDoor.H8
end
section
/- Two holidays, compared. -/
set_option linter.unusedVariables false
set_option linter.unusedSimpArgs false
namespace Go.Proofs.YtbffmobjiiicoaaDoor.H8
open Go.RowKit Go.Shelf
def eqHo (a b : Ho) : Bool := (a.k == b.k) && ((a.y == b.y) && ((a.m == b.m) && ((a.d == b.d) && ((a.w == b.w) && (a.n == b.n)))))
theorem ho_fields : Tryd.prog.underlying 132 = some (.struct (Tryd.prog.fieldsOf 132)) := by kernel_rfl
theorem ho_stood : Tryd.prog.stoodInHeld 132 = false := by kernel_rfl
theorem eqF_cons {P : Program} {w : World} {d : Nat} {xs ys : Array Value} {f : Field} {fs : List Field} {a b : Int} (hn : f.name ≠ "_") (hp : (part f.type xs f.offset).run P w = .ok (.int .i64 a) w) (hq : (part f.type ys f.offset).run P w = .ok (.int .i64 b) w) (ht : P.underlying f.type = some (.int .i64)) :
    (Op.eqFields (d + 1) xs ys (f :: fs)).run P w = if (a == b) = true then (Op.eqFields (d + 1) xs ys fs).run P w else .ok false w := by
  rw [Op.eqFields, if_pos hn]
  simp only [Sem.run_bind, hp, hq, Result.andThen_ok, run_equalIn_int w d f.type .i64 .i64 a b ht]
  cases h : (a == b) <;> simp
theorem eqF_nil {P : Program} {w : World} {d : Nat} {xs ys : Array Value} : (Op.eqFields d xs ys []).run P w = .ok true w := by simp [Op.eqFields]
set_option maxRecDepth 100000 in
theorem neq_ho (a b : Ho) (w : World) : (binOp .neq 132 (hoV a) (hoV b)).run Tryd.prog w = .ok (.bool (!eqHo a b)) w := by
  obtain ⟨k, y, m, d, v, n⟩ := a
  obtain ⟨k', y', m', d', v', n'⟩ := b
  have hu := Tryd.underlying132
  have hi := Tryd.underlying3
  have c1 : Tryd.prog.cellsOf 3 = 1 := by kernel_rfl
  rw [run_neq_struct, run_equalIn_struct w 9999 _ _ _ ho_fields ho_stood]
  simp only [Program.fieldsOf, hu]
  rw [eqF_cons (a := k) (b := k') (by decide) (by simp [go_sem]) (by simp [go_sem]) hi, eqF_cons (a := y) (b := y') (by decide) (by simp [go_sem]) (by simp [go_sem]) hi, eqF_cons (a := m) (b := m') (by decide) (by simp [go_sem]) (by simp [go_sem]) hi,
    eqF_cons (a := d) (b := d') (by decide) (by simp [go_sem]) (by simp [go_sem]) hi, eqF_cons (a := v) (b := v') (by decide) (by simp [go_sem]) (by simp [go_sem]) hi, eqF_cons (a := n) (b := n') (by decide) (by simp [go_sem]) (by simp [go_sem]) hi, eqF_nil]
  unfold eqHo
  simp only []
  cases (k == k') <;> cases (y == y') <;> cases (m == m') <;> cases (d == d') <;> cases (v == v') <;> cases (n == n') <;> rfl
end Go.Proofs.YtbffmobjiiicoaaDoor.H8
end
section
/- Contracts of isHoliday and isSeason. -/
set_option linter.unusedVariables false
set_option linter.unusedSimpArgs false
namespace Go.Proofs.YtbffmobjiiicoaaDoor.H8
open Go.RowKit Go.Shelf
theorem hcells6 {W : World} {B : Nat} {k y m d v n : Int} {fr : Nat × Nat} (h : W.heap[B]? = some (.cells (hoC k y m d v n) 132 fr)) :
    W.cell? ⟨B, 0, none⟩ = some (.int .i64 k) ∧ W.cell? ⟨B, 1, none⟩ = some (.int .i64 y) ∧ W.cell? ⟨B, 2, none⟩ = some (.int .i64 m) ∧ W.cell? ⟨B, 3, none⟩ = some (.int .i64 d) ∧ W.cell? ⟨B, 4, none⟩ = some (.int .i64 v) ∧ W.cell? ⟨B, 5, none⟩ = some (.int .i64 n) :=
  ⟨cell_of_row W B 0 _ _ _ h, cell_of_row W B 1 _ _ _ h, cell_of_row W B 2 _ _ _ h, cell_of_row W B 3 _ _ _ h, cell_of_row W B 4 _ _ _ h, cell_of_row W B 5 _ _ _ h⟩
theorem strip_no {h : Ho} (hs : eqHo h (strip h) = false) : ¬ HoIs h := by
  obtain ⟨k, y, m, d, w, n⟩ := h
  rintro (⟨rfl, rfl, rfl, rfl, _⟩ | ⟨rfl, rfl, rfl, _⟩ | ⟨rfl, rfl, rfl, _⟩ | ⟨rfl, rfl, rfl, rfl, rfl, _⟩) <;> simp [eqHo, strip] at hs
theorem strip_yes {h : Ho} (hs : eqHo h (strip h) = true) : (h.k = 1 → h.y = 0 ∧ h.w = 0 ∧ h.n = 0) ∧ (h.k = 2 → h.w = 0 ∧ h.n = 0) ∧ (h.k = 3 → h.y = 0 ∧ h.d = 0) ∧ (h.k = 4 → h.y = 0 ∧ h.m = 0 ∧ h.d = 0 ∧ h.w = 0) := by
  obtain ⟨k, y, m, d, w, n⟩ := h
  refine ⟨?_, ?_, ?_, ?_⟩ <;> rintro rfl <;> simp [eqHo, strip] at hs ⊢ <;> omega
theorem results_dateIn {y m d : Int} {b : Nat} {tmps : Array Value} {w : World} (h2 : tmps.getD 2 undef = .pointer (some ⟨b, 0, none⟩))
    (hb : w.heap[b]? = some (.cells #[.int .i64 y, .int .i64 m, .int .i64 d] 110 (0, 0))) : (results Tryd.f77 tmps).run Tryd.prog w = .ok (dateV y m d) w := by
  have c0 : w.cell? ⟨b, 0, none⟩ = some (.int .i64 y) := cell_of_row w b 0 _ _ _ hb
  have c1 : w.cell? ⟨b, 1, none⟩ = some (.int .i64 m) := cell_of_row w b 1 _ _ _ hb
  have c2 : w.cell? ⟨b, 2, none⟩ = some (.int .i64 d) := cell_of_row w b 2 _ _ _ hb
  simp only [Array.getD_eq_getD_getElem?] at h2
  simp [results, Tryd.results77, go_sem, h2, c0, c1, c2, dateV]
theorem dateIn_any (h : Ho) (w : World) :
    Calls Tryd.prog 77 #[hoV h] w fun e w' => e = .returned (dateV h.y h.m h.d) ∧ Below w.heap.size w w' := by
  have HB := Lib.hid (((Below.refl _ w).alloc (Nat.le_refl _) (.cells (hoC h.k h.y h.m h.d h.w h.n) 132)).alloc (by simp) (.cells #[.int .i64 h.y, .int .i64 h.m, .int .i64 h.d] 110))
  go_enter Tryd.func77, Tryd.ntmps77
  go_wp2
  have e1 : w.heap.size + 1 = (w.alloc (.cells (hoC h.k h.y h.m h.d h.w h.n) 132)).heap.size := by rw [World.size_alloc]
  refine bodyPost_ret (results_dateIn rfl (by rw [e1]; exact heap_alloc_new _ _)) rfl ?_
  exact ⟨rfl, HB.out⟩
set_option maxRecDepth 100000 in
set_option maxHeartbeats 2000000 in
theorem isHol_no (k y m d v n : Int) (hs : eqHo ⟨k, y, m, d, v, n⟩ (strip ⟨k, y, m, d, v, n⟩) = false) (w : World) (hT : Tabs w) :
    Calls Tryd.prog 56 #[.agg (hoC k y m d v n)] w fun e w' => e = .returned (.bool false) ∧ Below w.heap.size w w' := by
  have z0 := heap_alloc_new w (.cells (hoC k y m d v n) 132)
  have HB := Lib.hid ((Below.refl _ w).alloc (Nat.le_refl _) (.cells (hoC k y m d v n) 132))
  have HS := Lib.hid (stripped_any ⟨k, y, m, d, v, n⟩)
  have q1 : (w.alloc (.cells (hoC k y m d v n) 132)).drew.cell? ⟨w.heap.size, 0, none⟩ = some (.int .i64 k) ∧ (w.alloc (.cells (hoC k y m d v n) 132)).drew.cell? ⟨w.heap.size, 1, none⟩ = some (.int .i64 y) ∧ (w.alloc (.cells (hoC k y m d v n) 132)).drew.cell? ⟨w.heap.size, 2, none⟩ = some (.int .i64 m) ∧ (w.alloc (.cells (hoC k y m d v n) 132)).drew.cell? ⟨w.heap.size, 3, none⟩ = some (.int .i64 d) ∧ (w.alloc (.cells (hoC k y m d v n) 132)).drew.cell? ⟨w.heap.size, 4, none⟩ = some (.int .i64 v) ∧ (w.alloc (.cells (hoC k y m d v n) 132)).drew.cell? ⟨w.heap.size, 5, none⟩ = some (.int .i64 n) := hcells6 z0
  have HQ := Lib.hid z0
  have HN := Lib.hid (fun W => neq_ho ⟨k, y, m, d, v, n⟩ (strip ⟨k, y, m, d, v, n⟩) W)
  obtain ⟨a0, a1, a2, a3, a4, a5⟩ := hcells6 z0
  rw [hs] at HN
  clear hs z0
  go_enter Tryd.func56, Tryd.ntmps56
  go_wp2_with fail
  go_region_held3 (fun w' => w'.cell? ⟨w.heap.size, 0, none⟩ = some (.int .i64 k) ∧ w'.cell? ⟨w.heap.size, 1, none⟩ = some (.int .i64 y) ∧ w'.cell? ⟨w.heap.size, 2, none⟩ = some (.int .i64 m) ∧ w'.cell? ⟨w.heap.size, 3, none⟩ = some (.int .i64 d) ∧ w'.cell? ⟨w.heap.size, 4, none⟩ = some (.int .i64 v) ∧ w'.cell? ⟨w.heap.size, 5, none⟩ = some (.int .i64 n))
    (first | (with_reducible exact q1) | (with_reducible exact q2) | go_keep)
    (first
      | (go_at_call 76; ((with_reducible refine (HS.out _).mono ?_); rintro e w2' ⟨rfl, hB2⟩; have g2 := (hB2.block w.heap.size (Array.getElem?_eq_some_iff.1 HQ.out).1).trans HQ.out; have q2 : w2'.cell? ⟨w.heap.size, 0, none⟩ = some (.int .i64 k) ∧ w2'.cell? ⟨w.heap.size, 1, none⟩ = some (.int .i64 y) ∧ w2'.cell? ⟨w.heap.size, 2, none⟩ = some (.int .i64 m) ∧ w2'.cell? ⟨w.heap.size, 3, none⟩ = some (.int .i64 d) ∧ w2'.cell? ⟨w.heap.size, 4, none⟩ = some (.int .i64 v) ∧ w2'.cell? ⟨w.heap.size, 5, none⟩ = some (.int .i64 n) := hcells6 g2; have HX := Lib.hid hB2; have HN2 := HN.out)))
  · have HB2 := Lib.hid (HB.out.drew.trans (HX.out.mono HB.out.drew.size))
    have hT2 := hT.next HB2.out
    have G2 := Lib.hid g2
    have f1 := frozen_of_row w2' w.heap.size 1 _ _ g2
    obtain ⟨y0, y1, y2, y3, y4, y5⟩ := q2
    rename_i hHeld
    clear hHeld q1 HX HQ HS HN a0 a1 a2 a3 a4 a5 HB g2 hB2 hT
    go_wp2
    go_ret
    exact ⟨rfl, HB2.out⟩
set_option maxRecDepth 100000 in
set_option maxHeartbeats 2000000 in
theorem isHol_0 (k y m d v n : Int) (h1 : k ≠ 1) (h2 : k ≠ 2) (h3 : k ≠ 3) (h4 : k ≠ 4) (hs : eqHo ⟨k, y, m, d, v, n⟩ (strip ⟨k, y, m, d, v, n⟩) = true) (w : World) (hT : Tabs w) :
    Calls Tryd.prog 56 #[.agg (hoC k y m d v n)] w fun e w' => e = .returned (.bool false) ∧ Below w.heap.size w w' := by
  have z0 := heap_alloc_new w (.cells (hoC k y m d v n) 132)
  have HB := Lib.hid ((Below.refl _ w).alloc (Nat.le_refl _) (.cells (hoC k y m d v n) 132))
  have HS := Lib.hid (stripped_any ⟨k, y, m, d, v, n⟩)
  have q1 : (w.alloc (.cells (hoC k y m d v n) 132)).drew.cell? ⟨w.heap.size, 0, none⟩ = some (.int .i64 k) ∧ (w.alloc (.cells (hoC k y m d v n) 132)).drew.cell? ⟨w.heap.size, 1, none⟩ = some (.int .i64 y) ∧ (w.alloc (.cells (hoC k y m d v n) 132)).drew.cell? ⟨w.heap.size, 2, none⟩ = some (.int .i64 m) ∧ (w.alloc (.cells (hoC k y m d v n) 132)).drew.cell? ⟨w.heap.size, 3, none⟩ = some (.int .i64 d) ∧ (w.alloc (.cells (hoC k y m d v n) 132)).drew.cell? ⟨w.heap.size, 4, none⟩ = some (.int .i64 v) ∧ (w.alloc (.cells (hoC k y m d v n) 132)).drew.cell? ⟨w.heap.size, 5, none⟩ = some (.int .i64 n) := hcells6 z0
  have HQ := Lib.hid z0
  have HN := Lib.hid (fun W => neq_ho ⟨k, y, m, d, v, n⟩ (strip ⟨k, y, m, d, v, n⟩) W)
  obtain ⟨a0, a1, a2, a3, a4, a5⟩ := hcells6 z0
  rw [hs] at HN
  clear hs z0
  go_enter Tryd.func56, Tryd.ntmps56
  go_wp2_with fail
  go_region_held3 (fun w' => w'.cell? ⟨w.heap.size, 0, none⟩ = some (.int .i64 k) ∧ w'.cell? ⟨w.heap.size, 1, none⟩ = some (.int .i64 y) ∧ w'.cell? ⟨w.heap.size, 2, none⟩ = some (.int .i64 m) ∧ w'.cell? ⟨w.heap.size, 3, none⟩ = some (.int .i64 d) ∧ w'.cell? ⟨w.heap.size, 4, none⟩ = some (.int .i64 v) ∧ w'.cell? ⟨w.heap.size, 5, none⟩ = some (.int .i64 n))
    (first | (with_reducible exact q1) | (with_reducible exact q2) | go_keep)
    (first
      | (go_at_call 76; ((with_reducible refine (HS.out _).mono ?_); rintro e w2' ⟨rfl, hB2⟩; have g2 := (hB2.block w.heap.size (Array.getElem?_eq_some_iff.1 HQ.out).1).trans HQ.out; have q2 : w2'.cell? ⟨w.heap.size, 0, none⟩ = some (.int .i64 k) ∧ w2'.cell? ⟨w.heap.size, 1, none⟩ = some (.int .i64 y) ∧ w2'.cell? ⟨w.heap.size, 2, none⟩ = some (.int .i64 m) ∧ w2'.cell? ⟨w.heap.size, 3, none⟩ = some (.int .i64 d) ∧ w2'.cell? ⟨w.heap.size, 4, none⟩ = some (.int .i64 v) ∧ w2'.cell? ⟨w.heap.size, 5, none⟩ = some (.int .i64 n) := hcells6 g2; have HX := Lib.hid hB2; have HN2 := HN.out)))
  · have HB2 := Lib.hid (HB.out.drew.trans (HX.out.mono HB.out.drew.size))
    have hT2 := hT.next HB2.out
    have G2 := Lib.hid g2
    have f1 := frozen_of_row w2' w.heap.size 1 _ _ g2
    obtain ⟨y0, y1, y2, y3, y4, y5⟩ := q2
    rename_i hHeld
    clear hHeld q1 HX HQ HS HN a0 a1 a2 a3 a4 a5 HB g2 hB2 hT
    go_wp2
    go_ret
    exact ⟨rfl, HB2.out⟩
set_option maxRecDepth 100000 in
set_option maxHeartbeats 2000000 in
theorem isHol_2yes (y m d v n : Int) (hm : May y m d) (hs : eqHo ⟨2, y, m, d, v, n⟩ (strip ⟨2, y, m, d, v, n⟩) = true) (w : World) (hT : Tabs w) :
    Calls Tryd.prog 56 #[.agg (hoC 2 y m d v n)] w fun e w' => e = .returned (.bool true) ∧ Below w.heap.size w w' := by
  have z0 := heap_alloc_new w (.cells (hoC 2 y m d v n) 132)
  have HB := Lib.hid ((Below.refl _ w).alloc (Nat.le_refl _) (.cells (hoC 2 y m d v n) 132))
  have HS := Lib.hid (stripped_any ⟨2, y, m, d, v, n⟩)
  have q1 : (w.alloc (.cells (hoC 2 y m d v n) 132)).drew.cell? ⟨w.heap.size, 0, none⟩ = some (.int .i64 2) ∧ (w.alloc (.cells (hoC 2 y m d v n) 132)).drew.cell? ⟨w.heap.size, 1, none⟩ = some (.int .i64 y) ∧ (w.alloc (.cells (hoC 2 y m d v n) 132)).drew.cell? ⟨w.heap.size, 2, none⟩ = some (.int .i64 m) ∧ (w.alloc (.cells (hoC 2 y m d v n) 132)).drew.cell? ⟨w.heap.size, 3, none⟩ = some (.int .i64 d) ∧ (w.alloc (.cells (hoC 2 y m d v n) 132)).drew.cell? ⟨w.heap.size, 4, none⟩ = some (.int .i64 v) ∧ (w.alloc (.cells (hoC 2 y m d v n) 132)).drew.cell? ⟨w.heap.size, 5, none⟩ = some (.int .i64 n) := hcells6 z0
  have HQ := Lib.hid z0
  have HN := Lib.hid (fun W => neq_ho ⟨2, y, m, d, v, n⟩ (strip ⟨2, y, m, d, v, n⟩) W)
  obtain ⟨a0, a1, a2, a3, a4, a5⟩ := hcells6 z0
  rw [hs] at HN
  clear hs z0
  go_enter Tryd.func56, Tryd.ntmps56
  go_wp2_with fail
  go_region_held3 (fun w' => w'.cell? ⟨w.heap.size, 0, none⟩ = some (.int .i64 2) ∧ w'.cell? ⟨w.heap.size, 1, none⟩ = some (.int .i64 y) ∧ w'.cell? ⟨w.heap.size, 2, none⟩ = some (.int .i64 m) ∧ w'.cell? ⟨w.heap.size, 3, none⟩ = some (.int .i64 d) ∧ w'.cell? ⟨w.heap.size, 4, none⟩ = some (.int .i64 v) ∧ w'.cell? ⟨w.heap.size, 5, none⟩ = some (.int .i64 n))
    (first | (with_reducible exact q1) | (with_reducible exact q2) | go_keep)
    (first
      | (go_at_call 76; ((with_reducible refine (HS.out _).mono ?_); rintro e w2' ⟨rfl, hB2⟩; have g2 := (hB2.block w.heap.size (Array.getElem?_eq_some_iff.1 HQ.out).1).trans HQ.out; have q2 : w2'.cell? ⟨w.heap.size, 0, none⟩ = some (.int .i64 2) ∧ w2'.cell? ⟨w.heap.size, 1, none⟩ = some (.int .i64 y) ∧ w2'.cell? ⟨w.heap.size, 2, none⟩ = some (.int .i64 m) ∧ w2'.cell? ⟨w.heap.size, 3, none⟩ = some (.int .i64 d) ∧ w2'.cell? ⟨w.heap.size, 4, none⟩ = some (.int .i64 v) ∧ w2'.cell? ⟨w.heap.size, 5, none⟩ = some (.int .i64 n) := hcells6 g2; have HX := Lib.hid hB2; have HN2 := HN.out)))
  · have HB2 := Lib.hid (HB.out.drew.trans (HX.out.mono HB.out.drew.size))
    have hT2 := hT.next HB2.out
    have G2 := Lib.hid g2
    have f1 := frozen_of_row w2' w.heap.size 1 _ _ g2
    obtain ⟨y0, y1, y2, y3, y4, y5⟩ := q2
    rename_i hHeld
    clear hHeld q1 HX HQ HS HN a0 a1 a2 a3 a4 a5 HB g2 hB2 hT
    go_wp2_with (first
      | (go_at_call 77; refine (dateIn_any ⟨2, y, m, d, v, n⟩ _).mono ?_; rintro e w3 ⟨rfl, hB3⟩; have HB3 := Lib.hid hB3; have hT3 := hT2.next hB3; clear hB3)
      | (go_at_call 69; refine (check_any _ _ _ _ hT3).mono ?_; rintro e w4 ⟨rfl, hB4⟩; rw [mayE_yes hm]; have HB4 := Lib.hid hB4; clear hB4))
    go_ret
    exact ⟨rfl, (HB2.out.trans (HB3.out.mono HB2.out.size)).trans (HB4.out.mono (HB2.out.trans (HB3.out.mono HB2.out.size)).size)⟩
set_option maxRecDepth 100000 in
set_option maxHeartbeats 2000000 in
theorem isHol_1yes (y m d v n : Int) (hm : May 2000 m d) (hs : eqHo ⟨1, y, m, d, v, n⟩ (strip ⟨1, y, m, d, v, n⟩) = true) (w : World) (hT : Tabs w) :
    Calls Tryd.prog 56 #[.agg (hoC 1 y m d v n)] w fun e w' => e = .returned (.bool true) ∧ Below w.heap.size w w' := by
  have z0 := heap_alloc_new w (.cells (hoC 1 y m d v n) 132)
  have HB := Lib.hid ((Below.refl _ w).alloc (Nat.le_refl _) (.cells (hoC 1 y m d v n) 132))
  have HS := Lib.hid (stripped_any ⟨1, y, m, d, v, n⟩)
  have q1 : (w.alloc (.cells (hoC 1 y m d v n) 132)).drew.cell? ⟨w.heap.size, 0, none⟩ = some (.int .i64 1) ∧ (w.alloc (.cells (hoC 1 y m d v n) 132)).drew.cell? ⟨w.heap.size, 1, none⟩ = some (.int .i64 y) ∧ (w.alloc (.cells (hoC 1 y m d v n) 132)).drew.cell? ⟨w.heap.size, 2, none⟩ = some (.int .i64 m) ∧ (w.alloc (.cells (hoC 1 y m d v n) 132)).drew.cell? ⟨w.heap.size, 3, none⟩ = some (.int .i64 d) ∧ (w.alloc (.cells (hoC 1 y m d v n) 132)).drew.cell? ⟨w.heap.size, 4, none⟩ = some (.int .i64 v) ∧ (w.alloc (.cells (hoC 1 y m d v n) 132)).drew.cell? ⟨w.heap.size, 5, none⟩ = some (.int .i64 n) := hcells6 z0
  have HQ := Lib.hid z0
  have hw0 : 2 + 1 ≤ w.heap.size := hT.lt
  have HN := Lib.hid (fun W => neq_ho ⟨1, y, m, d, v, n⟩ (strip ⟨1, y, m, d, v, n⟩) W)
  obtain ⟨a0, a1, a2, a3, a4, a5⟩ := hcells6 z0
  rw [hs] at HN
  clear hs z0
  go_enter Tryd.func56, Tryd.ntmps56
  go_wp2_with fail
  go_region_held3 (fun w' => w'.cell? ⟨w.heap.size, 0, none⟩ = some (.int .i64 1) ∧ w'.cell? ⟨w.heap.size, 1, none⟩ = some (.int .i64 y) ∧ w'.cell? ⟨w.heap.size, 2, none⟩ = some (.int .i64 m) ∧ w'.cell? ⟨w.heap.size, 3, none⟩ = some (.int .i64 d) ∧ w'.cell? ⟨w.heap.size, 4, none⟩ = some (.int .i64 v) ∧ w'.cell? ⟨w.heap.size, 5, none⟩ = some (.int .i64 n))
    (first | (with_reducible exact q1) | (with_reducible exact q2) | go_keep)
    (first
      | (go_at_call 76; ((with_reducible refine (HS.out _).mono ?_); rintro e w2' ⟨rfl, hB2⟩; have g2 := (hB2.block w.heap.size (Array.getElem?_eq_some_iff.1 HQ.out).1).trans HQ.out; have q2 : w2'.cell? ⟨w.heap.size, 0, none⟩ = some (.int .i64 1) ∧ w2'.cell? ⟨w.heap.size, 1, none⟩ = some (.int .i64 y) ∧ w2'.cell? ⟨w.heap.size, 2, none⟩ = some (.int .i64 m) ∧ w2'.cell? ⟨w.heap.size, 3, none⟩ = some (.int .i64 d) ∧ w2'.cell? ⟨w.heap.size, 4, none⟩ = some (.int .i64 v) ∧ w2'.cell? ⟨w.heap.size, 5, none⟩ = some (.int .i64 n) := hcells6 g2; have HX := Lib.hid hB2; have HN2 := HN.out)))
  · have HB2 := Lib.hid (HB.out.drew.trans (HX.out.mono HB.out.drew.size))
    have hT2 := hT.next HB2.out
    have G2 := Lib.hid g2
    have f1 := frozen_of_row w2' w.heap.size 1 _ _ g2
    obtain ⟨y0, y1, y2, y3, y4, y5⟩ := q2
    rename_i hHeld
    clear hHeld q1 HX HQ HS HN a0 a1 a2 a3 a4 a5 HB g2 hB2 hT
    have hBs := HB2.out.setCell (p := ⟨w.heap.size, 1, none⟩) (by simp) (.int .i64 2000)
    have HBS := Lib.hid hBs
    have HTS := Lib.hid (Tabs.below hT2 (B := 2 + 1) (by omega) ((Below.refl (2 + 1) w2').setCell (p := ⟨w.heap.size, 1, none⟩) hw0 (.int .i64 2000)))
    clear hBs
    go_wp2_with (first
      | (go_at_call 77; refine (dateIn_any ⟨1, 2000, m, d, v, n⟩ _).mono ?_; rintro e w3 ⟨rfl, hB3⟩; have HB3 := Lib.hid hB3; have hT3 := HTS.out.next hB3; clear hB3)
      | (go_at_call 69; refine (check_any _ _ _ _ hT3).mono ?_; rintro e w4 ⟨rfl, hB4⟩; rw [mayE_yes hm]; have HB4 := Lib.hid hB4; clear hB4))
    go_ret
    exact ⟨rfl, (HBS.out.trans (HB3.out.mono HBS.out.size)).trans (HB4.out.mono (HBS.out.trans (HB3.out.mono HBS.out.size)).size)⟩
set_option maxRecDepth 100000 in
set_option maxHeartbeats 2000000 in
theorem isHol_2no (y m d v n : Int) (hm : ¬ May y m d) (hs : eqHo ⟨2, y, m, d, v, n⟩ (strip ⟨2, y, m, d, v, n⟩) = true) (w : World) (hT : Tabs w) :
    Calls Tryd.prog 56 #[.agg (hoC 2 y m d v n)] w fun e w' => e = .returned (.bool false) ∧ Below w.heap.size w w' := by
  have z0 := heap_alloc_new w (.cells (hoC 2 y m d v n) 132)
  have HB := Lib.hid ((Below.refl _ w).alloc (Nat.le_refl _) (.cells (hoC 2 y m d v n) 132))
  have HS := Lib.hid (stripped_any ⟨2, y, m, d, v, n⟩)
  have q1 : (w.alloc (.cells (hoC 2 y m d v n) 132)).drew.cell? ⟨w.heap.size, 0, none⟩ = some (.int .i64 2) ∧ (w.alloc (.cells (hoC 2 y m d v n) 132)).drew.cell? ⟨w.heap.size, 1, none⟩ = some (.int .i64 y) ∧ (w.alloc (.cells (hoC 2 y m d v n) 132)).drew.cell? ⟨w.heap.size, 2, none⟩ = some (.int .i64 m) ∧ (w.alloc (.cells (hoC 2 y m d v n) 132)).drew.cell? ⟨w.heap.size, 3, none⟩ = some (.int .i64 d) ∧ (w.alloc (.cells (hoC 2 y m d v n) 132)).drew.cell? ⟨w.heap.size, 4, none⟩ = some (.int .i64 v) ∧ (w.alloc (.cells (hoC 2 y m d v n) 132)).drew.cell? ⟨w.heap.size, 5, none⟩ = some (.int .i64 n) := hcells6 z0
  have HQ := Lib.hid z0
  have HN := Lib.hid (fun W => neq_ho ⟨2, y, m, d, v, n⟩ (strip ⟨2, y, m, d, v, n⟩) W)
  obtain ⟨a0, a1, a2, a3, a4, a5⟩ := hcells6 z0
  rw [hs] at HN
  clear hs z0
  go_enter Tryd.func56, Tryd.ntmps56
  go_wp2_with fail
  go_region_held3 (fun w' => w'.cell? ⟨w.heap.size, 0, none⟩ = some (.int .i64 2) ∧ w'.cell? ⟨w.heap.size, 1, none⟩ = some (.int .i64 y) ∧ w'.cell? ⟨w.heap.size, 2, none⟩ = some (.int .i64 m) ∧ w'.cell? ⟨w.heap.size, 3, none⟩ = some (.int .i64 d) ∧ w'.cell? ⟨w.heap.size, 4, none⟩ = some (.int .i64 v) ∧ w'.cell? ⟨w.heap.size, 5, none⟩ = some (.int .i64 n))
    (first | (with_reducible exact q1) | (with_reducible exact q2) | go_keep)
    (first
      | (go_at_call 76; ((with_reducible refine (HS.out _).mono ?_); rintro e w2' ⟨rfl, hB2⟩; have g2 := (hB2.block w.heap.size (Array.getElem?_eq_some_iff.1 HQ.out).1).trans HQ.out; have q2 : w2'.cell? ⟨w.heap.size, 0, none⟩ = some (.int .i64 2) ∧ w2'.cell? ⟨w.heap.size, 1, none⟩ = some (.int .i64 y) ∧ w2'.cell? ⟨w.heap.size, 2, none⟩ = some (.int .i64 m) ∧ w2'.cell? ⟨w.heap.size, 3, none⟩ = some (.int .i64 d) ∧ w2'.cell? ⟨w.heap.size, 4, none⟩ = some (.int .i64 v) ∧ w2'.cell? ⟨w.heap.size, 5, none⟩ = some (.int .i64 n) := hcells6 g2; have HX := Lib.hid hB2; have HN2 := HN.out)))
  · have HB2 := Lib.hid (HB.out.drew.trans (HX.out.mono HB.out.drew.size))
    have hT2 := hT.next HB2.out
    have G2 := Lib.hid g2
    have f1 := frozen_of_row w2' w.heap.size 1 _ _ g2
    obtain ⟨y0, y1, y2, y3, y4, y5⟩ := q2
    rename_i hHeld
    clear hHeld q1 HX HQ HS HN a0 a1 a2 a3 a4 a5 HB g2 hB2 hT
    go_wp2_with (first
      | (go_at_call 77; refine (dateIn_any ⟨2, y, m, d, v, n⟩ _).mono ?_; rintro e w3 ⟨rfl, hB3⟩; have HB3 := Lib.hid hB3; have hT3 := hT2.next hB3; clear hB3)
      | (go_at_call 69; refine (check_any _ _ _ _ hT3).mono ?_; rintro e w4 ⟨rfl, hB4⟩; rw [mayE_no hm]; have HB4 := Lib.hid hB4; clear hB4))
    go_ret
    exact ⟨rfl, (HB2.out.trans (HB3.out.mono HB2.out.size)).trans (HB4.out.mono (HB2.out.trans (HB3.out.mono HB2.out.size)).size)⟩
set_option maxRecDepth 100000 in
set_option maxHeartbeats 2000000 in
theorem isHol_1no (y m d v n : Int) (hm : ¬ May 2000 m d) (hs : eqHo ⟨1, y, m, d, v, n⟩ (strip ⟨1, y, m, d, v, n⟩) = true) (w : World) (hT : Tabs w) :
    Calls Tryd.prog 56 #[.agg (hoC 1 y m d v n)] w fun e w' => e = .returned (.bool false) ∧ Below w.heap.size w w' := by
  have z0 := heap_alloc_new w (.cells (hoC 1 y m d v n) 132)
  have HB := Lib.hid ((Below.refl _ w).alloc (Nat.le_refl _) (.cells (hoC 1 y m d v n) 132))
  have HS := Lib.hid (stripped_any ⟨1, y, m, d, v, n⟩)
  have q1 : (w.alloc (.cells (hoC 1 y m d v n) 132)).drew.cell? ⟨w.heap.size, 0, none⟩ = some (.int .i64 1) ∧ (w.alloc (.cells (hoC 1 y m d v n) 132)).drew.cell? ⟨w.heap.size, 1, none⟩ = some (.int .i64 y) ∧ (w.alloc (.cells (hoC 1 y m d v n) 132)).drew.cell? ⟨w.heap.size, 2, none⟩ = some (.int .i64 m) ∧ (w.alloc (.cells (hoC 1 y m d v n) 132)).drew.cell? ⟨w.heap.size, 3, none⟩ = some (.int .i64 d) ∧ (w.alloc (.cells (hoC 1 y m d v n) 132)).drew.cell? ⟨w.heap.size, 4, none⟩ = some (.int .i64 v) ∧ (w.alloc (.cells (hoC 1 y m d v n) 132)).drew.cell? ⟨w.heap.size, 5, none⟩ = some (.int .i64 n) := hcells6 z0
  have HQ := Lib.hid z0
  have hw0 : 2 + 1 ≤ w.heap.size := hT.lt
  have HN := Lib.hid (fun W => neq_ho ⟨1, y, m, d, v, n⟩ (strip ⟨1, y, m, d, v, n⟩) W)
  obtain ⟨a0, a1, a2, a3, a4, a5⟩ := hcells6 z0
  rw [hs] at HN
  clear hs z0
  go_enter Tryd.func56, Tryd.ntmps56
  go_wp2_with fail
  go_region_held3 (fun w' => w'.cell? ⟨w.heap.size, 0, none⟩ = some (.int .i64 1) ∧ w'.cell? ⟨w.heap.size, 1, none⟩ = some (.int .i64 y) ∧ w'.cell? ⟨w.heap.size, 2, none⟩ = some (.int .i64 m) ∧ w'.cell? ⟨w.heap.size, 3, none⟩ = some (.int .i64 d) ∧ w'.cell? ⟨w.heap.size, 4, none⟩ = some (.int .i64 v) ∧ w'.cell? ⟨w.heap.size, 5, none⟩ = some (.int .i64 n))
    (first | (with_reducible exact q1) | (with_reducible exact q2) | go_keep)
    (first
      | (go_at_call 76; ((with_reducible refine (HS.out _).mono ?_); rintro e w2' ⟨rfl, hB2⟩; have g2 := (hB2.block w.heap.size (Array.getElem?_eq_some_iff.1 HQ.out).1).trans HQ.out; have q2 : w2'.cell? ⟨w.heap.size, 0, none⟩ = some (.int .i64 1) ∧ w2'.cell? ⟨w.heap.size, 1, none⟩ = some (.int .i64 y) ∧ w2'.cell? ⟨w.heap.size, 2, none⟩ = some (.int .i64 m) ∧ w2'.cell? ⟨w.heap.size, 3, none⟩ = some (.int .i64 d) ∧ w2'.cell? ⟨w.heap.size, 4, none⟩ = some (.int .i64 v) ∧ w2'.cell? ⟨w.heap.size, 5, none⟩ = some (.int .i64 n) := hcells6 g2; have HX := Lib.hid hB2; have HN2 := HN.out)))
  · have HB2 := Lib.hid (HB.out.drew.trans (HX.out.mono HB.out.drew.size))
    have hT2 := hT.next HB2.out
    have G2 := Lib.hid g2
    have f1 := frozen_of_row w2' w.heap.size 1 _ _ g2
    obtain ⟨y0, y1, y2, y3, y4, y5⟩ := q2
    rename_i hHeld
    clear hHeld q1 HX HQ HS HN a0 a1 a2 a3 a4 a5 HB g2 hB2 hT
    have hBs := HB2.out.setCell (p := ⟨w.heap.size, 1, none⟩) (by simp) (.int .i64 2000)
    have HBS := Lib.hid hBs
    have HTS := Lib.hid (Tabs.below hT2 (B := 2 + 1) (by omega) ((Below.refl (2 + 1) w2').setCell (p := ⟨w.heap.size, 1, none⟩) hw0 (.int .i64 2000)))
    clear hBs
    go_wp2_with (first
      | (go_at_call 77; refine (dateIn_any ⟨1, 2000, m, d, v, n⟩ _).mono ?_; rintro e w3 ⟨rfl, hB3⟩; have HB3 := Lib.hid hB3; have hT3 := HTS.out.next hB3; clear hB3)
      | (go_at_call 69; refine (check_any _ _ _ _ hT3).mono ?_; rintro e w4 ⟨rfl, hB4⟩; rw [mayE_no hm]; have HB4 := Lib.hid hB4; clear hB4))
    go_ret
    exact ⟨rfl, (HBS.out.trans (HB3.out.mono HBS.out.size)).trans (HB4.out.mono (HBS.out.trans (HB3.out.mono HBS.out.size)).size)⟩
set_option maxRecDepth 100000 in
set_option maxHeartbeats 2000000 in
theorem isHol_4yes (y m d v n : Int) (hm : decide (-100 ≤ n ∧ n ≤ 200) = true) (hs : eqHo ⟨4, y, m, d, v, n⟩ (strip ⟨4, y, m, d, v, n⟩) = true) (w : World) (hT : Tabs w) :
    Calls Tryd.prog 56 #[.agg (hoC 4 y m d v n)] w fun e w' => e = .returned (.bool true) ∧ Below w.heap.size w w' := by
  have z0 := heap_alloc_new w (.cells (hoC 4 y m d v n) 132)
  have HB := Lib.hid ((Below.refl _ w).alloc (Nat.le_refl _) (.cells (hoC 4 y m d v n) 132))
  have HS := Lib.hid (stripped_any ⟨4, y, m, d, v, n⟩)
  have q1 : (w.alloc (.cells (hoC 4 y m d v n) 132)).drew.cell? ⟨w.heap.size, 0, none⟩ = some (.int .i64 4) ∧ (w.alloc (.cells (hoC 4 y m d v n) 132)).drew.cell? ⟨w.heap.size, 1, none⟩ = some (.int .i64 y) ∧ (w.alloc (.cells (hoC 4 y m d v n) 132)).drew.cell? ⟨w.heap.size, 2, none⟩ = some (.int .i64 m) ∧ (w.alloc (.cells (hoC 4 y m d v n) 132)).drew.cell? ⟨w.heap.size, 3, none⟩ = some (.int .i64 d) ∧ (w.alloc (.cells (hoC 4 y m d v n) 132)).drew.cell? ⟨w.heap.size, 4, none⟩ = some (.int .i64 v) ∧ (w.alloc (.cells (hoC 4 y m d v n) 132)).drew.cell? ⟨w.heap.size, 5, none⟩ = some (.int .i64 n) := hcells6 z0
  have HQ := Lib.hid z0
  have HN := Lib.hid (fun W => neq_ho ⟨4, y, m, d, v, n⟩ (strip ⟨4, y, m, d, v, n⟩) W)
  obtain ⟨a0, a1, a2, a3, a4, a5⟩ := hcells6 z0
  rw [hs] at HN
  clear hs z0
  go_enter Tryd.func56, Tryd.ntmps56
  go_wp2_with fail
  go_region_held3 (fun w' => w'.cell? ⟨w.heap.size, 0, none⟩ = some (.int .i64 4) ∧ w'.cell? ⟨w.heap.size, 1, none⟩ = some (.int .i64 y) ∧ w'.cell? ⟨w.heap.size, 2, none⟩ = some (.int .i64 m) ∧ w'.cell? ⟨w.heap.size, 3, none⟩ = some (.int .i64 d) ∧ w'.cell? ⟨w.heap.size, 4, none⟩ = some (.int .i64 v) ∧ w'.cell? ⟨w.heap.size, 5, none⟩ = some (.int .i64 n))
    (first | (with_reducible exact q1) | (with_reducible exact q2) | go_keep)
    (first
      | (go_at_call 76; ((with_reducible refine (HS.out _).mono ?_); rintro e w2' ⟨rfl, hB2⟩; have g2 := (hB2.block w.heap.size (Array.getElem?_eq_some_iff.1 HQ.out).1).trans HQ.out; have q2 : w2'.cell? ⟨w.heap.size, 0, none⟩ = some (.int .i64 4) ∧ w2'.cell? ⟨w.heap.size, 1, none⟩ = some (.int .i64 y) ∧ w2'.cell? ⟨w.heap.size, 2, none⟩ = some (.int .i64 m) ∧ w2'.cell? ⟨w.heap.size, 3, none⟩ = some (.int .i64 d) ∧ w2'.cell? ⟨w.heap.size, 4, none⟩ = some (.int .i64 v) ∧ w2'.cell? ⟨w.heap.size, 5, none⟩ = some (.int .i64 n) := hcells6 g2; have HX := Lib.hid hB2; have HN2 := HN.out)))
  · have HB2 := Lib.hid (HB.out.drew.trans (HX.out.mono HB.out.drew.size))
    have hT2 := hT.next HB2.out
    have G2 := Lib.hid g2
    have f1 := frozen_of_row w2' w.heap.size 1 _ _ g2
    obtain ⟨y0, y1, y2, y3, y4, y5⟩ := q2
    rename_i hHeld
    clear hHeld q1 HX HQ HS HN a0 a1 a2 a3 a4 a5 HB g2 hB2 hT
    go_wp2_with (go_at_call 78; refine (isFrom_any _ _ _ _).mono ?_; rintro e w3 ⟨rfl, rfl⟩; rw [hm])
    go_ret
    exact ⟨rfl, HB2.out⟩
set_option maxRecDepth 100000 in
set_option maxHeartbeats 2000000 in
theorem isHol_4no (y m d v n : Int) (hm : decide (-100 ≤ n ∧ n ≤ 200) = false) (hs : eqHo ⟨4, y, m, d, v, n⟩ (strip ⟨4, y, m, d, v, n⟩) = true) (w : World) (hT : Tabs w) :
    Calls Tryd.prog 56 #[.agg (hoC 4 y m d v n)] w fun e w' => e = .returned (.bool false) ∧ Below w.heap.size w w' := by
  have z0 := heap_alloc_new w (.cells (hoC 4 y m d v n) 132)
  have HB := Lib.hid ((Below.refl _ w).alloc (Nat.le_refl _) (.cells (hoC 4 y m d v n) 132))
  have HS := Lib.hid (stripped_any ⟨4, y, m, d, v, n⟩)
  have q1 : (w.alloc (.cells (hoC 4 y m d v n) 132)).drew.cell? ⟨w.heap.size, 0, none⟩ = some (.int .i64 4) ∧ (w.alloc (.cells (hoC 4 y m d v n) 132)).drew.cell? ⟨w.heap.size, 1, none⟩ = some (.int .i64 y) ∧ (w.alloc (.cells (hoC 4 y m d v n) 132)).drew.cell? ⟨w.heap.size, 2, none⟩ = some (.int .i64 m) ∧ (w.alloc (.cells (hoC 4 y m d v n) 132)).drew.cell? ⟨w.heap.size, 3, none⟩ = some (.int .i64 d) ∧ (w.alloc (.cells (hoC 4 y m d v n) 132)).drew.cell? ⟨w.heap.size, 4, none⟩ = some (.int .i64 v) ∧ (w.alloc (.cells (hoC 4 y m d v n) 132)).drew.cell? ⟨w.heap.size, 5, none⟩ = some (.int .i64 n) := hcells6 z0
  have HQ := Lib.hid z0
  have HN := Lib.hid (fun W => neq_ho ⟨4, y, m, d, v, n⟩ (strip ⟨4, y, m, d, v, n⟩) W)
  obtain ⟨a0, a1, a2, a3, a4, a5⟩ := hcells6 z0
  rw [hs] at HN
  clear hs z0
  go_enter Tryd.func56, Tryd.ntmps56
  go_wp2_with fail
  go_region_held3 (fun w' => w'.cell? ⟨w.heap.size, 0, none⟩ = some (.int .i64 4) ∧ w'.cell? ⟨w.heap.size, 1, none⟩ = some (.int .i64 y) ∧ w'.cell? ⟨w.heap.size, 2, none⟩ = some (.int .i64 m) ∧ w'.cell? ⟨w.heap.size, 3, none⟩ = some (.int .i64 d) ∧ w'.cell? ⟨w.heap.size, 4, none⟩ = some (.int .i64 v) ∧ w'.cell? ⟨w.heap.size, 5, none⟩ = some (.int .i64 n))
    (first | (with_reducible exact q1) | (with_reducible exact q2) | go_keep)
    (first
      | (go_at_call 76; ((with_reducible refine (HS.out _).mono ?_); rintro e w2' ⟨rfl, hB2⟩; have g2 := (hB2.block w.heap.size (Array.getElem?_eq_some_iff.1 HQ.out).1).trans HQ.out; have q2 : w2'.cell? ⟨w.heap.size, 0, none⟩ = some (.int .i64 4) ∧ w2'.cell? ⟨w.heap.size, 1, none⟩ = some (.int .i64 y) ∧ w2'.cell? ⟨w.heap.size, 2, none⟩ = some (.int .i64 m) ∧ w2'.cell? ⟨w.heap.size, 3, none⟩ = some (.int .i64 d) ∧ w2'.cell? ⟨w.heap.size, 4, none⟩ = some (.int .i64 v) ∧ w2'.cell? ⟨w.heap.size, 5, none⟩ = some (.int .i64 n) := hcells6 g2; have HX := Lib.hid hB2; have HN2 := HN.out)))
  · have HB2 := Lib.hid (HB.out.drew.trans (HX.out.mono HB.out.drew.size))
    have hT2 := hT.next HB2.out
    have G2 := Lib.hid g2
    have f1 := frozen_of_row w2' w.heap.size 1 _ _ g2
    obtain ⟨y0, y1, y2, y3, y4, y5⟩ := q2
    rename_i hHeld
    clear hHeld q1 HX HQ HS HN a0 a1 a2 a3 a4 a5 HB g2 hB2 hT
    go_wp2_with (go_at_call 78; refine (isFrom_any _ _ _ _).mono ?_; rintro e w3 ⟨rfl, rfl⟩; rw [hm])
    go_ret
    exact ⟨rfl, HB2.out⟩
set_option maxRecDepth 100000 in
set_option maxHeartbeats 2000000 in
theorem isHol_3a (y m d v n : Int) (hm : decide (1 ≤ m ∧ m ≤ 12) = false) (hs : eqHo ⟨3, y, m, d, v, n⟩ (strip ⟨3, y, m, d, v, n⟩) = true) (w : World) (hT : Tabs w) :
    Calls Tryd.prog 56 #[.agg (hoC 3 y m d v n)] w fun e w' => e = .returned (.bool false) ∧ Below w.heap.size w w' := by
  have z0 := heap_alloc_new w (.cells (hoC 3 y m d v n) 132)
  have HB := Lib.hid ((Below.refl _ w).alloc (Nat.le_refl _) (.cells (hoC 3 y m d v n) 132))
  have HS := Lib.hid (stripped_any ⟨3, y, m, d, v, n⟩)
  have q1 : (w.alloc (.cells (hoC 3 y m d v n) 132)).drew.cell? ⟨w.heap.size, 0, none⟩ = some (.int .i64 3) ∧ (w.alloc (.cells (hoC 3 y m d v n) 132)).drew.cell? ⟨w.heap.size, 1, none⟩ = some (.int .i64 y) ∧ (w.alloc (.cells (hoC 3 y m d v n) 132)).drew.cell? ⟨w.heap.size, 2, none⟩ = some (.int .i64 m) ∧ (w.alloc (.cells (hoC 3 y m d v n) 132)).drew.cell? ⟨w.heap.size, 3, none⟩ = some (.int .i64 d) ∧ (w.alloc (.cells (hoC 3 y m d v n) 132)).drew.cell? ⟨w.heap.size, 4, none⟩ = some (.int .i64 v) ∧ (w.alloc (.cells (hoC 3 y m d v n) 132)).drew.cell? ⟨w.heap.size, 5, none⟩ = some (.int .i64 n) := hcells6 z0
  have HQ := Lib.hid z0
  have HN := Lib.hid (fun W => neq_ho ⟨3, y, m, d, v, n⟩ (strip ⟨3, y, m, d, v, n⟩) W)
  obtain ⟨a0, a1, a2, a3, a4, a5⟩ := hcells6 z0
  rw [hs] at HN
  clear hs z0
  go_enter Tryd.func56, Tryd.ntmps56
  go_wp2_with fail
  go_region_held3 (fun w' => w'.cell? ⟨w.heap.size, 0, none⟩ = some (.int .i64 3) ∧ w'.cell? ⟨w.heap.size, 1, none⟩ = some (.int .i64 y) ∧ w'.cell? ⟨w.heap.size, 2, none⟩ = some (.int .i64 m) ∧ w'.cell? ⟨w.heap.size, 3, none⟩ = some (.int .i64 d) ∧ w'.cell? ⟨w.heap.size, 4, none⟩ = some (.int .i64 v) ∧ w'.cell? ⟨w.heap.size, 5, none⟩ = some (.int .i64 n))
    (first | (with_reducible exact q1) | (with_reducible exact q2) | go_keep)
    (first
      | (go_at_call 76; ((with_reducible refine (HS.out _).mono ?_); rintro e w2' ⟨rfl, hB2⟩; have g2 := (hB2.block w.heap.size (Array.getElem?_eq_some_iff.1 HQ.out).1).trans HQ.out; have q2 : w2'.cell? ⟨w.heap.size, 0, none⟩ = some (.int .i64 3) ∧ w2'.cell? ⟨w.heap.size, 1, none⟩ = some (.int .i64 y) ∧ w2'.cell? ⟨w.heap.size, 2, none⟩ = some (.int .i64 m) ∧ w2'.cell? ⟨w.heap.size, 3, none⟩ = some (.int .i64 d) ∧ w2'.cell? ⟨w.heap.size, 4, none⟩ = some (.int .i64 v) ∧ w2'.cell? ⟨w.heap.size, 5, none⟩ = some (.int .i64 n) := hcells6 g2; have HX := Lib.hid hB2; have HN2 := HN.out)))
  · have HB2 := Lib.hid (HB.out.drew.trans (HX.out.mono HB.out.drew.size))
    have hT2 := hT.next HB2.out
    have G2 := Lib.hid g2
    have f1 := frozen_of_row w2' w.heap.size 1 _ _ g2
    obtain ⟨y0, y1, y2, y3, y4, y5⟩ := q2
    rename_i hHeld
    clear hHeld q1 HX HQ HS HN a0 a1 a2 a3 a4 a5 HB g2 hB2 hT
    go_wp2_with (go_at_call 78; refine (isFrom_any _ _ _ _).mono ?_; rintro e w3 ⟨rfl, rfl⟩; first | rw [hm])
    go_ret
    exact ⟨rfl, HB2.out⟩
set_option maxRecDepth 100000 in
set_option maxHeartbeats 2000000 in
theorem isHol_3b (y m d v n : Int) (hm : decide (1 ≤ m ∧ m ≤ 12) = true) (hv : decide (1 ≤ v ∧ v ≤ 7) = false) (hs : eqHo ⟨3, y, m, d, v, n⟩ (strip ⟨3, y, m, d, v, n⟩) = true) (w : World) (hT : Tabs w) :
    Calls Tryd.prog 56 #[.agg (hoC 3 y m d v n)] w fun e w' => e = .returned (.bool false) ∧ Below w.heap.size w w' := by
  have z0 := heap_alloc_new w (.cells (hoC 3 y m d v n) 132)
  have HB := Lib.hid ((Below.refl _ w).alloc (Nat.le_refl _) (.cells (hoC 3 y m d v n) 132))
  have HS := Lib.hid (stripped_any ⟨3, y, m, d, v, n⟩)
  have q1 : (w.alloc (.cells (hoC 3 y m d v n) 132)).drew.cell? ⟨w.heap.size, 0, none⟩ = some (.int .i64 3) ∧ (w.alloc (.cells (hoC 3 y m d v n) 132)).drew.cell? ⟨w.heap.size, 1, none⟩ = some (.int .i64 y) ∧ (w.alloc (.cells (hoC 3 y m d v n) 132)).drew.cell? ⟨w.heap.size, 2, none⟩ = some (.int .i64 m) ∧ (w.alloc (.cells (hoC 3 y m d v n) 132)).drew.cell? ⟨w.heap.size, 3, none⟩ = some (.int .i64 d) ∧ (w.alloc (.cells (hoC 3 y m d v n) 132)).drew.cell? ⟨w.heap.size, 4, none⟩ = some (.int .i64 v) ∧ (w.alloc (.cells (hoC 3 y m d v n) 132)).drew.cell? ⟨w.heap.size, 5, none⟩ = some (.int .i64 n) := hcells6 z0
  have HQ := Lib.hid z0
  have HN := Lib.hid (fun W => neq_ho ⟨3, y, m, d, v, n⟩ (strip ⟨3, y, m, d, v, n⟩) W)
  obtain ⟨a0, a1, a2, a3, a4, a5⟩ := hcells6 z0
  rw [hs] at HN
  clear hs z0
  go_enter Tryd.func56, Tryd.ntmps56
  go_wp2_with fail
  go_region_held3 (fun w' => w'.cell? ⟨w.heap.size, 0, none⟩ = some (.int .i64 3) ∧ w'.cell? ⟨w.heap.size, 1, none⟩ = some (.int .i64 y) ∧ w'.cell? ⟨w.heap.size, 2, none⟩ = some (.int .i64 m) ∧ w'.cell? ⟨w.heap.size, 3, none⟩ = some (.int .i64 d) ∧ w'.cell? ⟨w.heap.size, 4, none⟩ = some (.int .i64 v) ∧ w'.cell? ⟨w.heap.size, 5, none⟩ = some (.int .i64 n))
    (first | (with_reducible exact q1) | (with_reducible exact q2) | go_keep)
    (first
      | (go_at_call 76; ((with_reducible refine (HS.out _).mono ?_); rintro e w2' ⟨rfl, hB2⟩; have g2 := (hB2.block w.heap.size (Array.getElem?_eq_some_iff.1 HQ.out).1).trans HQ.out; have q2 : w2'.cell? ⟨w.heap.size, 0, none⟩ = some (.int .i64 3) ∧ w2'.cell? ⟨w.heap.size, 1, none⟩ = some (.int .i64 y) ∧ w2'.cell? ⟨w.heap.size, 2, none⟩ = some (.int .i64 m) ∧ w2'.cell? ⟨w.heap.size, 3, none⟩ = some (.int .i64 d) ∧ w2'.cell? ⟨w.heap.size, 4, none⟩ = some (.int .i64 v) ∧ w2'.cell? ⟨w.heap.size, 5, none⟩ = some (.int .i64 n) := hcells6 g2; have HX := Lib.hid hB2; have HN2 := HN.out)))
  · have HB2 := Lib.hid (HB.out.drew.trans (HX.out.mono HB.out.drew.size))
    have hT2 := hT.next HB2.out
    have G2 := Lib.hid g2
    have f1 := frozen_of_row w2' w.heap.size 1 _ _ g2
    obtain ⟨y0, y1, y2, y3, y4, y5⟩ := q2
    rename_i hHeld
    clear hHeld q1 HX HQ HS HN a0 a1 a2 a3 a4 a5 HB g2 hB2 hT
    go_wp2_with (go_at_call 78; refine (isFrom_any _ _ _ _).mono ?_; rintro e w3 ⟨rfl, rfl⟩; first | rw [hm] | rw [hv])
    go_ret
    exact ⟨rfl, HB2.out⟩
set_option maxRecDepth 100000 in
set_option maxHeartbeats 2000000 in
theorem isHol_3c (y m d v n : Int) (hm : decide (1 ≤ m ∧ m ≤ 12) = true) (hv : decide (1 ≤ v ∧ v ≤ 7) = true) (hn : decide (1 ≤ n ∧ n ≤ 5) = true) (hs : eqHo ⟨3, y, m, d, v, n⟩ (strip ⟨3, y, m, d, v, n⟩) = true) (w : World) (hT : Tabs w) :
    Calls Tryd.prog 56 #[.agg (hoC 3 y m d v n)] w fun e w' => e = .returned (.bool true) ∧ Below w.heap.size w w' := by
  have z0 := heap_alloc_new w (.cells (hoC 3 y m d v n) 132)
  have HB := Lib.hid ((Below.refl _ w).alloc (Nat.le_refl _) (.cells (hoC 3 y m d v n) 132))
  have HS := Lib.hid (stripped_any ⟨3, y, m, d, v, n⟩)
  have q1 : (w.alloc (.cells (hoC 3 y m d v n) 132)).drew.cell? ⟨w.heap.size, 0, none⟩ = some (.int .i64 3) ∧ (w.alloc (.cells (hoC 3 y m d v n) 132)).drew.cell? ⟨w.heap.size, 1, none⟩ = some (.int .i64 y) ∧ (w.alloc (.cells (hoC 3 y m d v n) 132)).drew.cell? ⟨w.heap.size, 2, none⟩ = some (.int .i64 m) ∧ (w.alloc (.cells (hoC 3 y m d v n) 132)).drew.cell? ⟨w.heap.size, 3, none⟩ = some (.int .i64 d) ∧ (w.alloc (.cells (hoC 3 y m d v n) 132)).drew.cell? ⟨w.heap.size, 4, none⟩ = some (.int .i64 v) ∧ (w.alloc (.cells (hoC 3 y m d v n) 132)).drew.cell? ⟨w.heap.size, 5, none⟩ = some (.int .i64 n) := hcells6 z0
  have HQ := Lib.hid z0
  have HN := Lib.hid (fun W => neq_ho ⟨3, y, m, d, v, n⟩ (strip ⟨3, y, m, d, v, n⟩) W)
  obtain ⟨a0, a1, a2, a3, a4, a5⟩ := hcells6 z0
  rw [hs] at HN
  clear hs z0
  go_enter Tryd.func56, Tryd.ntmps56
  go_wp2_with fail
  go_region_held3 (fun w' => w'.cell? ⟨w.heap.size, 0, none⟩ = some (.int .i64 3) ∧ w'.cell? ⟨w.heap.size, 1, none⟩ = some (.int .i64 y) ∧ w'.cell? ⟨w.heap.size, 2, none⟩ = some (.int .i64 m) ∧ w'.cell? ⟨w.heap.size, 3, none⟩ = some (.int .i64 d) ∧ w'.cell? ⟨w.heap.size, 4, none⟩ = some (.int .i64 v) ∧ w'.cell? ⟨w.heap.size, 5, none⟩ = some (.int .i64 n))
    (first | (with_reducible exact q1) | (with_reducible exact q2) | go_keep)
    (first
      | (go_at_call 76; ((with_reducible refine (HS.out _).mono ?_); rintro e w2' ⟨rfl, hB2⟩; have g2 := (hB2.block w.heap.size (Array.getElem?_eq_some_iff.1 HQ.out).1).trans HQ.out; have q2 : w2'.cell? ⟨w.heap.size, 0, none⟩ = some (.int .i64 3) ∧ w2'.cell? ⟨w.heap.size, 1, none⟩ = some (.int .i64 y) ∧ w2'.cell? ⟨w.heap.size, 2, none⟩ = some (.int .i64 m) ∧ w2'.cell? ⟨w.heap.size, 3, none⟩ = some (.int .i64 d) ∧ w2'.cell? ⟨w.heap.size, 4, none⟩ = some (.int .i64 v) ∧ w2'.cell? ⟨w.heap.size, 5, none⟩ = some (.int .i64 n) := hcells6 g2; have HX := Lib.hid hB2; have HN2 := HN.out)))
  · have HB2 := Lib.hid (HB.out.drew.trans (HX.out.mono HB.out.drew.size))
    have hT2 := hT.next HB2.out
    have G2 := Lib.hid g2
    have f1 := frozen_of_row w2' w.heap.size 1 _ _ g2
    obtain ⟨y0, y1, y2, y3, y4, y5⟩ := q2
    rename_i hHeld
    clear hHeld q1 HX HQ HS HN a0 a1 a2 a3 a4 a5 HB g2 hB2 hT
    go_wp2_with (go_at_call 78; refine (isFrom_any _ _ _ _).mono ?_; rintro e w3 ⟨rfl, rfl⟩; first | rw [hm] | rw [hv] | rw [hn])
    go_ret
    exact ⟨rfl, HB2.out⟩
set_option maxRecDepth 100000 in
set_option maxHeartbeats 2000000 in
theorem isHol_3d (y m d v n : Int) (hm : decide (1 ≤ m ∧ m ≤ 12) = true) (hv : decide (1 ≤ v ∧ v ≤ 7) = true) (hn : decide (1 ≤ n ∧ n ≤ 5) = false) (hl : (n == -1) = true) (hs : eqHo ⟨3, y, m, d, v, n⟩ (strip ⟨3, y, m, d, v, n⟩) = true) (w : World) (hT : Tabs w) :
    Calls Tryd.prog 56 #[.agg (hoC 3 y m d v n)] w fun e w' => e = .returned (.bool true) ∧ Below w.heap.size w w' := by
  have z0 := heap_alloc_new w (.cells (hoC 3 y m d v n) 132)
  have HB := Lib.hid ((Below.refl _ w).alloc (Nat.le_refl _) (.cells (hoC 3 y m d v n) 132))
  have HS := Lib.hid (stripped_any ⟨3, y, m, d, v, n⟩)
  have q1 : (w.alloc (.cells (hoC 3 y m d v n) 132)).drew.cell? ⟨w.heap.size, 0, none⟩ = some (.int .i64 3) ∧ (w.alloc (.cells (hoC 3 y m d v n) 132)).drew.cell? ⟨w.heap.size, 1, none⟩ = some (.int .i64 y) ∧ (w.alloc (.cells (hoC 3 y m d v n) 132)).drew.cell? ⟨w.heap.size, 2, none⟩ = some (.int .i64 m) ∧ (w.alloc (.cells (hoC 3 y m d v n) 132)).drew.cell? ⟨w.heap.size, 3, none⟩ = some (.int .i64 d) ∧ (w.alloc (.cells (hoC 3 y m d v n) 132)).drew.cell? ⟨w.heap.size, 4, none⟩ = some (.int .i64 v) ∧ (w.alloc (.cells (hoC 3 y m d v n) 132)).drew.cell? ⟨w.heap.size, 5, none⟩ = some (.int .i64 n) := hcells6 z0
  have HQ := Lib.hid z0
  have HN := Lib.hid (fun W => neq_ho ⟨3, y, m, d, v, n⟩ (strip ⟨3, y, m, d, v, n⟩) W)
  obtain ⟨a0, a1, a2, a3, a4, a5⟩ := hcells6 z0
  rw [hs] at HN
  clear hs z0
  go_enter Tryd.func56, Tryd.ntmps56
  go_wp2_with fail
  go_region_held3 (fun w' => w'.cell? ⟨w.heap.size, 0, none⟩ = some (.int .i64 3) ∧ w'.cell? ⟨w.heap.size, 1, none⟩ = some (.int .i64 y) ∧ w'.cell? ⟨w.heap.size, 2, none⟩ = some (.int .i64 m) ∧ w'.cell? ⟨w.heap.size, 3, none⟩ = some (.int .i64 d) ∧ w'.cell? ⟨w.heap.size, 4, none⟩ = some (.int .i64 v) ∧ w'.cell? ⟨w.heap.size, 5, none⟩ = some (.int .i64 n))
    (first | (with_reducible exact q1) | (with_reducible exact q2) | go_keep)
    (first
      | (go_at_call 76; ((with_reducible refine (HS.out _).mono ?_); rintro e w2' ⟨rfl, hB2⟩; have g2 := (hB2.block w.heap.size (Array.getElem?_eq_some_iff.1 HQ.out).1).trans HQ.out; have q2 : w2'.cell? ⟨w.heap.size, 0, none⟩ = some (.int .i64 3) ∧ w2'.cell? ⟨w.heap.size, 1, none⟩ = some (.int .i64 y) ∧ w2'.cell? ⟨w.heap.size, 2, none⟩ = some (.int .i64 m) ∧ w2'.cell? ⟨w.heap.size, 3, none⟩ = some (.int .i64 d) ∧ w2'.cell? ⟨w.heap.size, 4, none⟩ = some (.int .i64 v) ∧ w2'.cell? ⟨w.heap.size, 5, none⟩ = some (.int .i64 n) := hcells6 g2; have HX := Lib.hid hB2; have HN2 := HN.out)))
  · have HB2 := Lib.hid (HB.out.drew.trans (HX.out.mono HB.out.drew.size))
    have hT2 := hT.next HB2.out
    have G2 := Lib.hid g2
    have f1 := frozen_of_row w2' w.heap.size 1 _ _ g2
    obtain ⟨y0, y1, y2, y3, y4, y5⟩ := q2
    rename_i hHeld
    clear hHeld q1 HX HQ HS HN a0 a1 a2 a3 a4 a5 HB g2 hB2 hT
    go_wp2_with (go_at_call 78; refine (isFrom_any _ _ _ _).mono ?_; rintro e w3 ⟨rfl, rfl⟩; first | rw [hm] | rw [hv] | rw [hn])
    go_ret
    exact ⟨rfl, HB2.out⟩
set_option maxRecDepth 100000 in
set_option maxHeartbeats 2000000 in
theorem isHol_3e (y m d v n : Int) (hm : decide (1 ≤ m ∧ m ≤ 12) = true) (hv : decide (1 ≤ v ∧ v ≤ 7) = true) (hn : decide (1 ≤ n ∧ n ≤ 5) = false) (hl : (n == -1) = false) (hs : eqHo ⟨3, y, m, d, v, n⟩ (strip ⟨3, y, m, d, v, n⟩) = true) (w : World) (hT : Tabs w) :
    Calls Tryd.prog 56 #[.agg (hoC 3 y m d v n)] w fun e w' => e = .returned (.bool false) ∧ Below w.heap.size w w' := by
  have z0 := heap_alloc_new w (.cells (hoC 3 y m d v n) 132)
  have HB := Lib.hid ((Below.refl _ w).alloc (Nat.le_refl _) (.cells (hoC 3 y m d v n) 132))
  have HS := Lib.hid (stripped_any ⟨3, y, m, d, v, n⟩)
  have q1 : (w.alloc (.cells (hoC 3 y m d v n) 132)).drew.cell? ⟨w.heap.size, 0, none⟩ = some (.int .i64 3) ∧ (w.alloc (.cells (hoC 3 y m d v n) 132)).drew.cell? ⟨w.heap.size, 1, none⟩ = some (.int .i64 y) ∧ (w.alloc (.cells (hoC 3 y m d v n) 132)).drew.cell? ⟨w.heap.size, 2, none⟩ = some (.int .i64 m) ∧ (w.alloc (.cells (hoC 3 y m d v n) 132)).drew.cell? ⟨w.heap.size, 3, none⟩ = some (.int .i64 d) ∧ (w.alloc (.cells (hoC 3 y m d v n) 132)).drew.cell? ⟨w.heap.size, 4, none⟩ = some (.int .i64 v) ∧ (w.alloc (.cells (hoC 3 y m d v n) 132)).drew.cell? ⟨w.heap.size, 5, none⟩ = some (.int .i64 n) := hcells6 z0
  have HQ := Lib.hid z0
  have HN := Lib.hid (fun W => neq_ho ⟨3, y, m, d, v, n⟩ (strip ⟨3, y, m, d, v, n⟩) W)
  obtain ⟨a0, a1, a2, a3, a4, a5⟩ := hcells6 z0
  rw [hs] at HN
  clear hs z0
  go_enter Tryd.func56, Tryd.ntmps56
  go_wp2_with fail
  go_region_held3 (fun w' => w'.cell? ⟨w.heap.size, 0, none⟩ = some (.int .i64 3) ∧ w'.cell? ⟨w.heap.size, 1, none⟩ = some (.int .i64 y) ∧ w'.cell? ⟨w.heap.size, 2, none⟩ = some (.int .i64 m) ∧ w'.cell? ⟨w.heap.size, 3, none⟩ = some (.int .i64 d) ∧ w'.cell? ⟨w.heap.size, 4, none⟩ = some (.int .i64 v) ∧ w'.cell? ⟨w.heap.size, 5, none⟩ = some (.int .i64 n))
    (first | (with_reducible exact q1) | (with_reducible exact q2) | go_keep)
    (first
      | (go_at_call 76; ((with_reducible refine (HS.out _).mono ?_); rintro e w2' ⟨rfl, hB2⟩; have g2 := (hB2.block w.heap.size (Array.getElem?_eq_some_iff.1 HQ.out).1).trans HQ.out; have q2 : w2'.cell? ⟨w.heap.size, 0, none⟩ = some (.int .i64 3) ∧ w2'.cell? ⟨w.heap.size, 1, none⟩ = some (.int .i64 y) ∧ w2'.cell? ⟨w.heap.size, 2, none⟩ = some (.int .i64 m) ∧ w2'.cell? ⟨w.heap.size, 3, none⟩ = some (.int .i64 d) ∧ w2'.cell? ⟨w.heap.size, 4, none⟩ = some (.int .i64 v) ∧ w2'.cell? ⟨w.heap.size, 5, none⟩ = some (.int .i64 n) := hcells6 g2; have HX := Lib.hid hB2; have HN2 := HN.out)))
  · have HB2 := Lib.hid (HB.out.drew.trans (HX.out.mono HB.out.drew.size))
    have hT2 := hT.next HB2.out
    have G2 := Lib.hid g2
    have f1 := frozen_of_row w2' w.heap.size 1 _ _ g2
    obtain ⟨y0, y1, y2, y3, y4, y5⟩ := q2
    rename_i hHeld
    clear hHeld q1 HX HQ HS HN a0 a1 a2 a3 a4 a5 HB g2 hB2 hT
    go_wp2_with (go_at_call 78; refine (isFrom_any _ _ _ _).mono ?_; rintro e w3 ⟨rfl, rfl⟩; first | rw [hm] | rw [hv] | rw [hn])
    go_ret
    exact ⟨rfl, HB2.out⟩
theorem isHol_any (h : Ho) (w : World) (hT : Tabs w) :
    Calls Tryd.prog 56 #[hoV h] w fun e w' => e = .returned (.bool (decide (HoIs h))) ∧ Below w.heap.size w w' := by
  cases hs : eqHo h (strip h)
  · rw [show decide (HoIs h) = false from decide_eq_false (strip_no hs)]
    obtain ⟨k, y, m, d, v, n⟩ := h
    exact isHol_no k y m d v n hs w hT
  · have hz := strip_yes hs
    obtain ⟨k, y, m, d, v, n⟩ := h
    by_cases h1 : k = 1
    · subst h1
      obtain ⟨rfl, rfl, rfl⟩ := hz.1 rfl
      by_cases hm : May 2000 m d
      · rw [show decide (HoIs ⟨1, 0, m, d, 0, 0⟩) = true from decide_eq_true (.inl ⟨rfl, rfl, rfl, rfl, hm⟩)]
        exact isHol_1yes 0 m d 0 0 hm hs w hT
      · rw [show decide (HoIs ⟨1, 0, m, d, 0, 0⟩) = false from decide_eq_false (by rintro (⟨_, _, _, _, h⟩ | ⟨h, _⟩ | ⟨h, _⟩ | ⟨h, _⟩) <;> first | exact hm h | exact absurd h (by simp))]
        exact isHol_1no 0 m d 0 0 hm hs w hT
    · by_cases h2 : k = 2
      · subst h2
        obtain ⟨rfl, rfl⟩ := hz.2.1 rfl
        by_cases hm : May y m d
        · rw [show decide (HoIs ⟨2, y, m, d, 0, 0⟩) = true from decide_eq_true (.inr (.inl ⟨rfl, rfl, rfl, hm⟩))]
          exact isHol_2yes y m d 0 0 hm hs w hT
        · rw [show decide (HoIs ⟨2, y, m, d, 0, 0⟩) = false from decide_eq_false (by rintro (⟨h, _⟩ | ⟨_, _, _, h⟩ | ⟨h, _⟩ | ⟨h, _⟩) <;> first | exact hm h | exact absurd h (by simp))]
          exact isHol_2no y m d 0 0 hm hs w hT
      · by_cases h3 : k = 3
        · subst h3
          obtain ⟨rfl, rfl⟩ := hz.2.2.1 rfl
          by_cases cm : 1 ≤ m ∧ m ≤ 12
          · by_cases cv : 1 ≤ v ∧ v ≤ 7
            · by_cases cn : 1 ≤ n ∧ n ≤ 5
              · rw [show decide (HoIs ⟨3, 0, m, 0, v, n⟩) = true from decide_eq_true (.inr (.inr (.inl ⟨rfl, rfl, rfl, cm, cv, .inr cn⟩)))]
                exact isHol_3c 0 m 0 v n (decide_eq_true cm) (decide_eq_true cv) (decide_eq_true cn) hs w hT
              · by_cases cl : n = -1
                · rw [show decide (HoIs ⟨3, 0, m, 0, v, n⟩) = true from decide_eq_true (.inr (.inr (.inl ⟨rfl, rfl, rfl, cm, cv, .inl cl⟩)))]
                  exact isHol_3d 0 m 0 v n (decide_eq_true cm) (decide_eq_true cv) (decide_eq_false cn) (by simp [cl]) hs w hT
                · rw [show decide (HoIs ⟨3, 0, m, 0, v, n⟩) = false from decide_eq_false (by rintro (⟨h, _⟩ | ⟨h, _⟩ | ⟨_, _, _, _, _, h⟩ | ⟨h, _⟩) <;> first | (rcases h with h | h <;> first | exact cl h | exact cn h) | exact absurd h (by simp))]
                  exact isHol_3e 0 m 0 v n (decide_eq_true cm) (decide_eq_true cv) (decide_eq_false cn) (by simp [cl]) hs w hT
            · rw [show decide (HoIs ⟨3, 0, m, 0, v, n⟩) = false from decide_eq_false (by rintro (⟨h, _⟩ | ⟨h, _⟩ | ⟨_, _, _, _, h, _⟩ | ⟨h, _⟩) <;> first | exact cv h | exact absurd h (by simp))]
              exact isHol_3b 0 m 0 v n (decide_eq_true cm) (decide_eq_false cv) hs w hT
          · rw [show decide (HoIs ⟨3, 0, m, 0, v, n⟩) = false from decide_eq_false (by rintro (⟨h, _⟩ | ⟨h, _⟩ | ⟨_, _, _, h, _⟩ | ⟨h, _⟩) <;> first | exact cm h | exact absurd h (by simp))]
            exact isHol_3a 0 m 0 v n (decide_eq_false cm) hs w hT
        · by_cases h4 : k = 4
          · subst h4
            obtain ⟨rfl, rfl, rfl, rfl⟩ := hz.2.2.2 rfl
            by_cases cn : -100 ≤ n ∧ n ≤ 200
            · rw [show decide (HoIs ⟨4, 0, 0, 0, 0, n⟩) = true from decide_eq_true (.inr (.inr (.inr ⟨rfl, rfl, rfl, rfl, rfl, cn⟩)))]
              exact isHol_4yes 0 0 0 0 n (decide_eq_true cn) hs w hT
            · rw [show decide (HoIs ⟨4, 0, 0, 0, 0, n⟩) = false from decide_eq_false (by rintro (⟨h, _⟩ | ⟨h, _⟩ | ⟨h, _⟩ | ⟨_, _, _, _, _, h⟩) <;> first | exact cn h | exact absurd h (by simp))]
              exact isHol_4no 0 0 0 0 n (decide_eq_false cn) hs w hT
          · rw [show decide (HoIs ⟨k, y, m, d, v, n⟩) = false from decide_eq_false (by rintro (⟨h, _⟩ | ⟨h, _⟩ | ⟨h, _⟩ | ⟨h, _⟩) <;> first | exact h1 h | exact h2 h | exact h3 h | exact h4 h)]
            exact isHol_0 k y m d v n h1 h2 h3 h4 hs w hT
abbrev seV (s : Se) : Value := .agg #[.int .i64 s.n, .int .i64 s.m, .int .i64 s.d]
theorem isSea_a (n m d : Int) (hn : decide (1 ≤ n ∧ n ≤ 99) = false) (w : World) (hT : Tabs w) :
    Calls Tryd.prog 57 #[.agg #[.int .i64 n, .int .i64 m, .int .i64 d]] w fun e w' => e = .returned (.bool false) ∧ Below w.heap.size w w' := by
  have HB := Lib.hid ((Below.refl _ w).alloc (Nat.le_refl _) (.cells #[.int .i64 n, .int .i64 m, .int .i64 d] 135))
  go_enter Tryd.func57, Tryd.ntmps57
  go_wp2_with (go_at_call 78; refine (isFrom_any _ _ _ _).mono ?_; rintro e w3 ⟨rfl, rfl⟩; rw [hn])
  go_ret
  exact ⟨rfl, HB.out⟩
theorem isSea_b (n m d : Int) (hn : decide (1 ≤ n ∧ n ≤ 99) = true) (hm : May 2001 m d) (w : World) (hT : Tabs w) :
    Calls Tryd.prog 57 #[.agg #[.int .i64 n, .int .i64 m, .int .i64 d]] w fun e w' => e = .returned (.bool true) ∧ Below w.heap.size w w' := by
  have hb := (Below.refl _ w).alloc (Nat.le_refl _) (.cells #[.int .i64 n, .int .i64 m, .int .i64 d] 135)
  have HT := Lib.hid (hT.next hb)
  have HB := Lib.hid hb
  clear hb
  go_enter Tryd.func57, Tryd.ntmps57
  go_wp2_with (first
    | (go_at_call 78; refine (isFrom_any _ _ _ _).mono ?_; rintro e w3 ⟨rfl, rfl⟩; rw [hn])
    | (go_at_call 69; refine (check_any _ _ _ _ HT.out).mono ?_; rintro e w4 ⟨rfl, hB4⟩; rw [mayE_yes hm]; have HB4 := Lib.hid hB4; clear hB4))
  go_ret
  exact ⟨rfl, HB.out.trans (HB4.out.mono HB.out.size)⟩
theorem isSea_c (n m d : Int) (hn : decide (1 ≤ n ∧ n ≤ 99) = true) (hm : ¬ May 2001 m d) (w : World) (hT : Tabs w) :
    Calls Tryd.prog 57 #[.agg #[.int .i64 n, .int .i64 m, .int .i64 d]] w fun e w' => e = .returned (.bool false) ∧ Below w.heap.size w w' := by
  have hb := (Below.refl _ w).alloc (Nat.le_refl _) (.cells #[.int .i64 n, .int .i64 m, .int .i64 d] 135)
  have HT := Lib.hid (hT.next hb)
  have HB := Lib.hid hb
  clear hb
  go_enter Tryd.func57, Tryd.ntmps57
  go_wp2_with (first
    | (go_at_call 78; refine (isFrom_any _ _ _ _).mono ?_; rintro e w3 ⟨rfl, rfl⟩; rw [hn])
    | (go_at_call 69; refine (check_any _ _ _ _ HT.out).mono ?_; rintro e w4 ⟨rfl, hB4⟩; rw [mayE_no hm]; have HB4 := Lib.hid hB4; clear hB4))
  go_ret
  exact ⟨rfl, HB.out.trans (HB4.out.mono HB.out.size)⟩
theorem isSea_any (s : Se) (w : World) (hT : Tabs w) :
    Calls Tryd.prog 57 #[seV s] w fun e w' => e = .returned (.bool (decide (SeIs s))) ∧ Below w.heap.size w w' := by
  obtain ⟨n, m, d⟩ := s
  by_cases cn : 1 ≤ n ∧ n ≤ 99
  · by_cases cm : May 2001 m d
    · rw [show decide (SeIs ⟨n, m, d⟩) = true from decide_eq_true ⟨cn, cm⟩]
      exact isSea_b n m d (decide_eq_true cn) cm w hT
    · rw [show decide (SeIs ⟨n, m, d⟩) = false from decide_eq_false (fun h => cm h.2)]
      exact isSea_c n m d (decide_eq_true cn) cm w hT
  · rw [show decide (SeIs ⟨n, m, d⟩) = false from decide_eq_false (fun h => cn h.1)]
    exact isSea_a n m d (decide_eq_false cn) w hT
end Go.Proofs.YtbffmobjiiicoaaDoor.H8
end
