/- Holidays, seasons and Easter Sunday as numbers. -/
import Derived.Test.YtgedcfgmfhlkdaaDoorKDays
import Derived.Test.YtgedcfgmfhlkdaaDoorKNth
set_option linter.unusedVariables false
namespace Go.Proofs.YtgedcfgmfhlkdaaDoor
structure Ho where
  k : Int
  y : Int
  m : Int
  d : Int
  w : Int
  n : Int
structure Se where
  n : Int
  m : Int
  d : Int
def HoIs (h : Ho) : Prop :=
  (h.k = 1 ∧ h.y = 0 ∧ h.w = 0 ∧ h.n = 0 ∧ May 2000 h.m h.d) ∨ (h.k = 2 ∧ h.w = 0 ∧ h.n = 0 ∧ May h.y h.m h.d) ∨
  (h.k = 3 ∧ h.y = 0 ∧ h.d = 0 ∧ (1 ≤ h.m ∧ h.m ≤ 12) ∧ (1 ≤ h.w ∧ h.w ≤ 7) ∧ (h.n = -1 ∨ (1 ≤ h.n ∧ h.n ≤ 5))) ∨
  (h.k = 4 ∧ h.y = 0 ∧ h.m = 0 ∧ h.d = 0 ∧ h.w = 0 ∧ -100 ≤ h.n ∧ h.n ≤ 200)
instance (h : Ho) : Decidable (HoIs h) := by unfold HoIs; infer_instance
def SeIs (s : Se) : Prop := (1 ≤ s.n ∧ s.n ≤ 99) ∧ May 2001 s.m s.d
instance (s : Se) : Decidable (SeIs s) := by unfold SeIs; infer_instance
def bgn (m d : Int) : Int := m * 100 + d
/-- Are the first sl seasons on days of their own? -/
def Apart (S : Nat → Se) (sl : Nat) : Prop := ∀ i, i < sl → ∀ j, j < i → ¬ ((S j).m = (S i).m ∧ (S j).d = (S i).d)
instance (S : Nat → Se) (sl : Nat) : Decidable (Apart S sl) := by unfold Apart; infer_instance
def CalIs (H : Nat → Ho) (hl : Nat) (S : Nat → Se) (sl : Nat) : Prop := hl ≤ 100 ∧ sl ≤ 12 ∧ (∀ i, i < hl → HoIs (H i)) ∧ (∀ i, i < sl → SeIs (S i)) ∧ Apart S sl
instance (H : Nat → Ho) (hl : Nat) (S : Nat → Se) (sl : Nat) : Decidable (CalIs H hl S sl) := by unfold CalIs; infer_instance
/-! Easter. -/
def eaH (y : Int) : Int := (19 * (y % 19) + y / 100 - y / 100 / 4 - (y / 100 - (y / 100 + 8) / 25 + 1) / 3 + 15) % 30
def eaL (y : Int) : Int := (32 + 2 * (y / 100 % 4) + 2 * (y % 100 / 4) - eaH y - y % 100 % 4) % 7
def eaN (y : Int) : Int := eaH y + eaL y - 7 * ((y % 19 + 11 * eaH y + 22 * eaL y) / 451) + 114
def eaM (y : Int) : Int := eaN y / 31
def eaD (y : Int) : Int := eaN y % 31 + 1
def eaDay (y : Int) : Int := dayOf y (eaM y) (eaD y)
def eaOK (y : Int) : Bool := ((eaM y == 3 && decide (22 ≤ eaD y) && decide (eaD y ≤ 31)) || (eaM y == 4 && decide (1 ≤ eaD y) && decide (eaD y ≤ 25))) && (wkday (eaDay y) == 7)
def eaRun (s : Nat) : Nat → Bool
  | 0 => true
  | k + 1 => eaOK ((s + k : Nat) : Int) && eaRun s k
theorem eaRun_spec {s : Nat} : ∀ {k : Nat}, eaRun s k = true → ∀ j, j < k → eaOK ((s + j : Nat) : Int) = true
  | 0, _, j, hj => absurd hj (Nat.not_lt_zero _)
  | k + 1, h, j, hj => by
    rw [eaRun, Bool.and_eq_true] at h
    rcases Nat.lt_succ_iff_lt_or_eq.1 hj with hl | rfl
    · exact eaRun_spec h.2 j hl
    · exact h.1
theorem ea1 : eaRun 1970 2000 = true := by decide +kernel
theorem ea2 : eaRun 3970 2000 = true := by decide +kernel
theorem ea3 : eaRun 5970 2000 = true := by decide +kernel
theorem ea4 : eaRun 7970 2030 = true := by decide +kernel
theorem ea_ok {y : Int} (h0 : 1970 ≤ y) (h1 : y ≤ 9999) : eaOK y = true := by
  rcases (by omega : y < 3970 ∨ (3970 ≤ y ∧ y < 5970) ∨ (5970 ≤ y ∧ y < 7970) ∨ 7970 ≤ y) with h | h | h | h
  · have := eaRun_spec ea1 (y - 1970).toNat (by omega)
    rwa [show ((1970 + (y - 1970).toNat : Nat) : Int) = y by omega] at this
  · have := eaRun_spec ea2 (y - 3970).toNat (by omega)
    rwa [show ((3970 + (y - 3970).toNat : Nat) : Int) = y by omega] at this
  · have := eaRun_spec ea3 (y - 5970).toNat (by omega)
    rwa [show ((5970 + (y - 5970).toNat : Nat) : Int) = y by omega] at this
  · have := eaRun_spec ea4 (y - 7970).toNat (by omega)
    rwa [show ((7970 + (y - 7970).toNat : Nat) : Int) = y by omega] at this
theorem ea_in {y : Int} (h0 : 1970 ≤ y) (h1 : y ≤ 9999) : ((eaM y = 3 ∧ 22 ≤ eaD y ∧ eaD y ≤ 31) ∨ (eaM y = 4 ∧ 1 ≤ eaD y ∧ eaD y ≤ 25)) ∧ wkday (eaDay y) = 7 := by
  have h := ea_ok h0 h1
  unfold eaOK at h
  simpa [and_assoc] using h
theorem ea_may {y : Int} (h0 : 1970 ≤ y) (h1 : y ≤ 9999) : May y (eaM y) (eaD y) := by
  rcases (ea_in h0 h1).1 with ⟨e, h2, h3⟩ | ⟨e, h2, h3⟩
  · rw [e]; exact ⟨h0, h1, by omega, by omega, by omega, by simpa [dlen, mlen] using h3⟩
  · rw [e]; exact ⟨h0, h1, by omega, by omega, by omega, Int.le_trans h3 (by simp [dlen, mlen])⟩
/-- Easter Sunday lies from day 80 to day 116 of its year, counted from 0. -/
theorem ea_day {y : Int} (h0 : 1970 ≤ y) (h1 : y ≤ 9999) : ahead y + 80 ≤ eaDay y ∧ eaDay y ≤ ahead y + 115 := by
  have hl := lp_le y
  rcases (ea_in h0 h1).1 with ⟨e, h2, h3⟩ | ⟨e, h2, h3⟩ <;> unfold eaDay dayOf <;> rw [e] <;> simp [bef, cum] <;> omega
/-! The days of one holiday in a year. -/
def yd (y Y M D : Int) : List Int := if May Y M D ∧ Y = y then [dayOf Y M D] else []
def PaIn (y e n : Int) : Prop := (1970 ≤ e ∧ e ≤ 9999) ∧ ahead y ≤ eaDay e + n ∧ eaDay e + n < ahead (y + 1)
instance (y e n : Int) : Decidable (PaIn y e n) := by unfold PaIn; infer_instance
def pd (y e n : Int) : List Int := if PaIn y e n then [eaDay e + n] else []
def wd (y m w n : Int) : List Int := if NthIs y m w n then [dayOf y m (nthD y m w n)] else []
def hoDays (h : Ho) (y : Int) : List Int :=
  if h.k = 1 then yd y y h.m h.d else if h.k = 2 then yd y h.y h.m h.d else if h.k = 3 then wd y h.m h.w h.n else if h.k = 4 then pd y y h.n ++ pd y (y + 1) h.n else []
/-- The days of the first k holidays. -/
def hds (H : Nat → Ho) (y : Int) : Nat → List Int
  | 0 => []
  | k + 1 => hds H y k ++ hoDays (H k) y
theorem mem_hds {H : Nat → Ho} {y x : Int} : ∀ {k : Nat}, x ∈ hds H y k ↔ ∃ i, i < k ∧ x ∈ hoDays (H i) y
  | 0 => by simp [hds]
  | k + 1 => by
    rw [hds, List.mem_append, mem_hds]
    constructor
    · rintro (⟨i, hi, h⟩ | h)
      · exact ⟨i, by omega, h⟩
      · exact ⟨k, by omega, h⟩
    · rintro ⟨i, hi, h⟩
      rcases Nat.lt_succ_iff_lt_or_eq.1 hi with hl | rfl
      · exact .inl ⟨i, hl, h⟩
      · exact .inr h
theorem yd_len (y Y M D : Int) : (yd y Y M D).length ≤ 1 := by unfold yd; split <;> simp
theorem pd_len (y e n : Int) : (pd y e n).length ≤ 1 := by unfold pd; split <;> simp
theorem wd_len (y m w n : Int) : (wd y m w n).length ≤ 1 := by unfold wd; split <;> simp
theorem ho_len (h : Ho) (y : Int) : (hoDays h y).length ≤ 2 := by
  unfold hoDays
  have := yd_len y y h.m h.d; have := yd_len y h.y h.m h.d; have := pd_len y y h.n; have := pd_len y (y + 1) h.n; have := wd_len y h.m h.w h.n
  split
  · omega
  · split
    · omega
    · split
      · omega
      · split
        · rw [List.length_append]; omega
        · simp
theorem hds_len (H : Nat → Ho) (y : Int) : ∀ k : Nat, (hds H y k).length ≤ 2 * k
  | 0 => by simp [hds]
  | k + 1 => by rw [hds, List.length_append]; have := hds_len H y k; have := ho_len (H k) y; omega
/-- The days that a holiday has in a year lie in it. -/
theorem ho_in {h : Ho} {y x : Int} (hy0 : 1970 ≤ y) (hy1 : y ≤ 9999) (hx : x ∈ hoDays h y) : ahead y ≤ x ∧ x < ahead (y + 1) := by
  have hyd : ∀ Y M D, x ∈ yd y Y M D → ahead y ≤ x ∧ x < ahead (y + 1) := by
    intro Y M D h
    unfold yd at h
    split at h
    · rename_i hm
      rw [List.mem_singleton] at h
      obtain ⟨h1, rfl⟩ := hm
      rw [h]; exact in_year h1
    · cases h
  have hpd : ∀ e n, x ∈ pd y e n → ahead y ≤ x ∧ x < ahead (y + 1) := by
    intro e n h
    unfold pd at h
    split at h
    · rename_i hm
      rw [List.mem_singleton] at h
      rw [h]; exact hm.2
    · cases h
  unfold hoDays at hx
  split at hx
  · exact hyd _ _ _ hx
  · split at hx
    · exact hyd _ _ _ hx
    · split at hx
      · unfold wd at hx
        split at hx
        · rename_i hm
          rw [List.mem_singleton] at hx
          obtain ⟨hm1, hw, hn⟩ := hm
          rw [hx]
          have hf := nthF_bounds y h.m h.w
          have hdl := dlen_ge (y := y) (m := h.m) hm1.2.2.1 hm1.2.2.2.1
          refine in_year ⟨hm1.1, hm1.2.1, hm1.2.2.1, hm1.2.2.2.1, ?_, ?_⟩
          · unfold nthD; split <;> omega
          · rcases hn with hn | ⟨a, b, c⟩
            · unfold nthD; rw [if_pos hn]; omega
            · exact c
        · cases hx
      · split at hx
        · rcases List.mem_append.1 hx with h | h
          · exact hpd _ _ h
          · exact hpd _ _ h
        · cases hx
theorem year_days {y : Int} (hy0 : 1970 ≤ y) (hy1 : y ≤ 9999) : 0 ≤ ahead y ∧ ahead y + 365 ≤ ahead (y + 1) ∧ ahead (y + 1) ≤ ahead y + 366 ∧ ahead (y + 1) ≤ 2932897 := by
  have a := ahead_le (a := 1970) (b := y) hy0
  have b := ahead_le (a := y + 1) (b := 10000) (by omega)
  have c := ahead_succ (y := y) (by omega)
  have d := lp_le y
  rw [ahead_1970] at a
  rw [ahead_10000] at b
  omega
theorem hds_in {H : Nat → Ho} {y x : Int} {k : Nat} (hy0 : 1970 ≤ y) (hy1 : y ≤ 9999) (hx : x ∈ hds H y k) : ahead y ≤ x ∧ x < ahead (y + 1) := by
  obtain ⟨i, _, h⟩ := mem_hds.1 hx
  exact ho_in hy0 hy1 h
/-- A day's year, by the ends. -/
theorem year_of_date {x y m d Y : Int} (h : IsDate x y m d) (h0 : ahead Y ≤ x) (h1 : x < ahead (Y + 1)) : Y = y := by
  have a := in_year h.1
  rw [← h.2] at a
  rcases Int.lt_trichotomy Y y with hl | rfl | hl
  · have := ahead_le (a := Y + 1) (b := y) (by omega); omega
  · rfl
  · have := ahead_le (a := y + 1) (b := Y) (by omega); omega
/-- The kind of a day. -/
def kindW (x : Int) : Int := if wkday x = 7 then 3 else if wkday x = 6 then 2 else 1
def kindB (x : Int) (f : Bool) : Int := if f then 4 else kindW x
/-- The season. -/
def SeaIs (S : Nat → Se) (sl : Nat) (now r : Int) : Prop :=
  (sl = 0 ∧ r = 0) ∨ ∃ i, i < sl ∧ (S i).n = r ∧ ((bgn (S i).m (S i).d ≤ now ∧ ∀ j, j < sl → bgn (S j).m (S j).d ≤ now → bgn (S j).m (S j).d ≤ bgn (S i).m (S i).d) ∨
    ((∀ j, j < sl → now < bgn (S j).m (S j).d) ∧ ∀ j, j < sl → bgn (S j).m (S j).d ≤ bgn (S i).m (S i).d))
theorem se_bounds {s : Se} (h : SeIs s) : (1 ≤ s.m ∧ s.m ≤ 12) ∧ (1 ≤ s.d ∧ s.d ≤ 31) := by
  obtain ⟨_, h1, h2, h3, h4, h5, h6⟩ := h
  have := dlen_bounds (y := 2001) (m := s.m)
  omega
theorem bgn_inj {S : Nat → Se} {sl : Nat} (hs : ∀ i, i < sl → SeIs (S i)) (ha : Apart S sl) {i j : Nat} (hi : i < sl) (hj : j < sl) (e : bgn (S i).m (S i).d = bgn (S j).m (S j).d) : i = j := by
  have b1 := se_bounds (hs i hi)
  have b2 := se_bounds (hs j hj)
  unfold bgn at e
  rcases Nat.lt_trichotomy i j with h | h | h
  · exact absurd ⟨by omega, by omega⟩ (ha j hj i h)
  · exact h
  · exact absurd ⟨by omega, by omega⟩ (ha i hi j h)
theorem SeaIs.unique {S : Nat → Se} {sl : Nat} {now r r' : Int} (hs : ∀ i, i < sl → SeIs (S i)) (ha : Apart S sl) (h : SeaIs S sl now r) (h' : SeaIs S sl now r') : r = r' := by
  rcases h with ⟨e, rfl⟩ | ⟨i, hi, rfl, h⟩
  · rcases h' with ⟨_, rfl⟩ | ⟨j, hj, _⟩
    · rfl
    · omega
  · rcases h' with ⟨e, _⟩ | ⟨j, hj, rfl, h'⟩
    · omega
    · have : bgn (S i).m (S i).d = bgn (S j).m (S j).d := by
        rcases h with ⟨a, b⟩ | ⟨a, b⟩ <;> rcases h' with ⟨c, d⟩ | ⟨c, d⟩
        · have := b j hj c; have := d i hi a; omega
        · have := c i hi; omega
        · have := a j hj; omega
        · have := b j hj; have := d i hi; omega
      rw [bgn_inj hs ha hi hj this]
end Go.Proofs.YtgedcfgmfhlkdaaDoor
