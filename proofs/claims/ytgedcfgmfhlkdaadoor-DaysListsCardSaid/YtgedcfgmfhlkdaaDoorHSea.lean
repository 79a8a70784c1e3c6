/- Seasons: the map of their beginnings, the latest one, and going back day by day. -/
import Derived.Test.YtgedcfgmfhlkdaaDoorHMath
import Derived.Maps.Views
import Derived.Maps.RangeWalk
set_option linter.unusedVariables false
namespace Go.Proofs.YtgedcfgmfhlkdaaDoor
open Go.RowKit Go.Maps
def bg (S : Nat → Se) (i : Nat) : Int := bgn (S i).m (S i).d
def Bg {H : Type} (S : Nat → Se) : Nat → DataW H
  | 0 => .map []
  | k + 1 => (Bg S k).put (.int .i64 (bg S k)) (.lit (.int .i64 (S k).n))
theorem isKey (x : Int) : WideAt.IsKeyLit (Lit.int .i64 x) := trivial
theorem Bg_tidy {H : Type} (S : Nat → Se) : ∀ k : Nat, Tidy (Bg (H := H) S k)
  | 0 => tidy_empty
  | k + 1 => (Bg_tidy S k).put (isKey _) _
theorem key_ne {a b : Int} (h : a ≠ b) : Lit.int .i64 a ≠ Lit.int .i64 b := fun e => h (by cases e; rfl)
theorem has_Bg {H : Type} (S : Nat → Se) (b : Int) : ∀ k : Nat, has (Bg (H := H) S k) (.int .i64 b) = true ↔ ∃ i, i < k ∧ bg S i = b
  | 0 => by simp [Bg, has]
  | k + 1 => by
    rw [Bg]
    by_cases e : b = bg S k
    · rw [e, has_put_same (Bg_tidy S k).isMap (isKey _)]
      simp only [true_iff]
      exact ⟨k, by omega, rfl⟩
    · rw [has_put_other (key_ne e), has_Bg S b k]
      constructor
      · rintro ⟨i, hi, h⟩; exact ⟨i, by omega, h⟩
      · rintro ⟨i, hi, h⟩
        rcases Nat.lt_succ_iff_lt_or_eq.1 hi with hl | rfl
        · exact ⟨i, hl, h⟩
        · exact absurd h.symm e
theorem size_Bg {H : Type} (S : Nat → Se) : ∀ k : Nat, size (Bg (H := H) S k) ≤ k ∧ (size (Bg (H := H) S k) = k ↔ ∀ i, i < k → ∀ j, j < i → bg S j ≠ bg S i)
  | 0 => ⟨Nat.zero_le _, by simp [Bg, size]⟩
  | k + 1 => by
    obtain ⟨h1, h2⟩ := size_Bg (H := H) S k
    rw [Bg, size_put (Bg_tidy S k)]
    cases hh : has (Bg (H := H) S k) (.int .i64 (bg S k))
    · rw [if_neg (by simp)]
      have hno : ∀ j, j < k → bg S j ≠ bg S k := fun j hj e => by
        rw [(has_Bg S (bg S k) k).2 ⟨j, hj, e⟩] at hh; cases hh
      refine ⟨by omega, ?_⟩
      rw [show (size (Bg (H := H) S k) + 1 = k + 1) ↔ size (Bg (H := H) S k) = k from ⟨by omega, by omega⟩, h2]
      constructor
      · intro h i hi j hj
        rcases Nat.lt_succ_iff_lt_or_eq.1 hi with hl | rfl
        · exact h i hl j hj
        · exact hno j hj
      · exact fun h i hi j hj => h i (by omega) j hj
    · rw [if_pos rfl]
      refine ⟨by omega, ⟨fun e => by omega, fun h => ?_⟩⟩
      obtain ⟨i, hi, e⟩ := (has_Bg S (bg S k) k).1 hh
      exact absurd e (h k (by omega) i hi)
theorem at_Bg {H : Type} (S : Nat → Se) (z : DataW H) {k : Nat} : ∀ {i : Nat}, i < k → (∀ a, a < k → ∀ c, c < a → bg S c ≠ bg S a) → (Bg S k).atKey (.int .i64 (bg S i)) z = .lit (.int .i64 (S i).n) := by
  induction k with
  | zero => intro i h; exact absurd h (Nat.not_lt_zero _)
  | succ k ih =>
    intro i hi h
    rw [Bg]
    rcases Nat.lt_succ_iff_lt_or_eq.1 hi with hl | rfl
    · rw [atKey_put_other (key_ne (h k (by omega) i hl)), ih hl (fun a ha c hc => h a (by omega) c hc)]
    · rw [atKey_put_same (Bg_tidy S i).isMap (isKey _)]
theorem apart_iff {S : Nat → Se} {sl : Nat} (hs : ∀ i, i < sl → SeIs (S i)) : Apart S sl ↔ ∀ i, i < sl → ∀ j, j < i → bg S j ≠ bg S i := by
  constructor
  · intro h i hi j hj e
    have := bgn_inj hs h (show j < sl by omega) hi e
    omega
  · intro h i hi j hj ⟨e1, e2⟩
    exact h i hi j hj (by unfold bg; rw [e1, e2])
theorem bg_bounds {S : Nat → Se} {sl : Nat} (hs : ∀ i, i < sl → SeIs (S i)) {i : Nat} (hi : i < sl) : 101 ≤ bg S i ∧ bg S i ≤ 1231 := by
  have := se_bounds (hs i hi)
  unfold bg bgn
  omega
/-- What the loop of numberAt has found. -/
def NumI (S : Nat → Se) (sl : Nat) (now : Int) (left : Lit → Bool) (lt la : Int) : Prop :=
  (∀ i, i < sl → left (.int .i64 (bg S i)) = false → bg S i ≤ la ∧ (bg S i ≤ now → bg S i ≤ lt)) ∧ (la = 0 ∨ ∃ i, i < sl ∧ bg S i = la) ∧ (lt = 0 ∨ ∃ i, i < sl ∧ bg S i = lt ∧ lt ≤ now)
theorem NumI.start {H : Type} {S : Nat → Se} {sl : Nat} {now : Int} : NumI S sl now (Maps.has (Bg (H := H) S sl)) 0 0 :=
  ⟨fun i hi h => (by rw [(has_Bg S (bg S i) sl).2 ⟨i, hi, rfl⟩] at h; cases h), .inl rfl, .inl rfl⟩
theorem NumI.step {S : Nat → Se} {sl : Nat} {now x lt la lt' la' : Int} {left : Lit → Bool} (h : NumI S sl now left lt la) (hx : ∃ i, i < sl ∧ bg S i = x) (ea : la' = if la < x then x else la) (et : lt' = if x ≤ now then (if lt < x then x else lt) else lt) :
    NumI S sl now (fun z => left z && !z.sameKey (.int .i64 x)) lt' la' := by
  obtain ⟨h1, h2, h3⟩ := h
  refine ⟨fun i hi hl => ?_, ?_, ?_⟩
  · have hor : left (.int .i64 (bg S i)) = false ∨ bg S i = x := by
      by_cases e : bg S i = x
      · exact .inr e
      · have hl2 : (left (.int .i64 (bg S i)) && !(Lit.int .i64 (bg S i)).sameKey (.int .i64 x)) = false := hl
        rw [sameKey_ne (key_ne e)] at hl2
        exact .inl (by simpa using hl2)
    subst ea et
    rcases hor with hf | e
    · obtain ⟨a, b⟩ := h1 i hi hf
      refine ⟨by split <;> omega, fun hn => ?_⟩
      have := b hn
      split
      · split <;> omega
      · omega
    · rw [e]
      refine ⟨by split <;> omega, fun hn => ?_⟩
      rw [if_pos hn]
      split <;> omega
  · subst ea
    split
    · exact .inr hx
    · exact h2
  · subst et
    split
    · rename_i hn
      split
      · obtain ⟨i, hi, e⟩ := hx
        exact .inr ⟨i, hi, e, hn⟩
      · exact h3
    · exact h3
theorem NumI.season {H : Type} {S : Nat → Se} {sl : Nat} {now lt la c : Int} {left : Lit → Bool} (hs : ∀ i, i < sl → SeIs (S i)) (ha : Apart S sl) (h : NumI S sl now left lt la) (hl : ∀ kl, left kl = false)
    (hc : (Bg (H := H) S sl).atKey (.int .i64 (if lt = 0 then la else lt)) (.lit (.int .i64 0)) = .lit (.int .i64 c)) : SeaIs S sl now c := by
  obtain ⟨h1, h2, h3⟩ := h
  have hd := (apart_iff hs).1 ha
  by_cases h0 : sl = 0
  · left
    refine ⟨h0, ?_⟩
    subst h0
    have e : (Bg (H := H) S 0).atKey (.int .i64 (if lt = 0 then la else lt)) (.lit (.int .i64 0)) = .lit (.int .i64 0) := rfl
    rw [e] at hc
    simp at hc
    exact hc.symm
  · right
    have b0 := bg_bounds hs (show 0 < sl by omega)
    have l0 := (h1 0 (by omega) (hl _)).1
    obtain ⟨ia, hia, ea⟩ : ∃ i, i < sl ∧ bg S i = la := by
      rcases h2 with h | h
      · omega
      · exact h
    rcases h3 with rfl | ⟨i, hi, e, hn⟩
    · rw [if_pos rfl, ← ea, at_Bg S _ hia hd] at hc
      have hcn : (S ia).n = c := by simpa using hc
      have hno : ∀ j, j < sl → now < bg S j := fun j hj => by
        have b := bg_bounds hs hj
        by_cases q : bg S j ≤ now
        · have := (h1 j hj (hl _)).2 q; omega
        · omega
      exact ⟨ia, hia, hcn, .inr ⟨hno, fun j hj => by have := (h1 j hj (hl _)).1; unfold bg at this ea; omega⟩⟩
    · have hp := bg_bounds hs hi
      rw [if_neg (by omega), ← e, at_Bg S _ hi hd] at hc
      have hcn : (S i).n = c := by simpa using hc
      refine ⟨i, hi, hcn, .inl ⟨by unfold bg at e; omega, fun j hj hq => ?_⟩⟩
      have := (h1 j hj (hl _)).2 hq
      unfold bg at this e
      omega
/-! Going back day by day. -/
def pos (m d : Int) : Int := (m - 1) * 31 + d
/-- Where the document stands after n days. -/
def Back (S : Nat → Se) (sl : Nat) (now : Int) (n : Nat) (y m d : Int) : Prop :=
  (1 ≤ m ∧ m ≤ 12) ∧ (1 ≤ d ∧ d ≤ dlen y m) ∧ (sl = 0 ∨ (bgn m d ≤ now ∧ (∀ j, j < sl → bg S j ≤ now → bg S j ≤ bgn m d) ∧ n + pos m d ≤ 372) ∨ ((∀ j, j < sl → now < bg S j) ∧ (∀ j, j < sl → bg S j ≤ bgn m d) ∧ n + pos m d ≤ 744))
theorem Back.start {S : Nat → Se} {sl : Nat} {y m d : Int} (h : May y m d) : Back S sl (bgn m d) 0 y m d := by
  have := dlen_bounds (y := y) (m := m)
  obtain ⟨h1, h2, h3, h4, h5, h6⟩ := h
  exact ⟨⟨h3, h4⟩, ⟨h5, h6⟩, .inr (.inl ⟨Int.le_refl _, fun j hj h => h, by unfold pos; omega⟩)⟩
theorem Back.found {S : Nat → Se} {sl n : Nat} {now y m d : Int} (h : Back S sl now n y m d) {i : Nat} (hi : i < sl) (e1 : (S i).m = m) (e2 : (S i).d = d) : SeaIs S sl now (S i).n := by
  obtain ⟨h1, h2, h3⟩ := h
  refine .inr ⟨i, hi, rfl, ?_⟩
  rw [e1, e2]
  rcases h3 with h | ⟨a, b, c⟩ | ⟨a, b, c⟩
  · omega
  · exact .inl ⟨a, b⟩
  · exact .inr ⟨a, b⟩
theorem Back.none {S : Nat → Se} {sl n : Nat} {now y m d : Int} (h : Back S sl now n y m d) (hn : 800 ≤ n) : SeaIs S sl now 0 := by
  obtain ⟨h1, h2, h3⟩ := h
  rcases h3 with h | ⟨a, b, c⟩ | ⟨a, b, c⟩
  · exact .inl ⟨h, rfl⟩
  · unfold pos at c; omega
  · unfold pos at c; omega
theorem no_2001 {m : Int} (h1 : 1 ≤ m) (h2 : m ≤ 12) (y : Int) : dlen 2001 m ≤ dlen y m := by
  have : lp 2001 = 0 := by decide
  rw [dlen_in h1 h2, dlen_in h1 h2, this]
  have := lp_le y
  split <;> omega
/-- No season begins on the day: those that begin no later begin earlier. -/
theorem below_of {S : Nat → Se} {sl : Nat} (hs : ∀ i, i < sl → SeIs (S i)) {y m d : Int} (hm : 1 ≤ m ∧ m ≤ 12) (hd : 1 ≤ d ∧ d ≤ dlen y m) (hno : ∀ i, i < sl → ¬ ((S i).m = m ∧ (S i).d = d)) {j : Nat} (hj : j < sl) (hb : bg S j ≤ bgn m d) :
    (1 < d → bg S j ≤ bgn m (d - 1)) ∧ (d = 1 → 1 < m → ∀ y', bg S j ≤ bgn (m - 1) (dlen y' (m - 1))) ∧ (d = 1 → m ≠ 1) := by
  have b := se_bounds (hs j hj)
  have hl := dlen_bounds (y := y) (m := m)
  have hn := hno j hj
  have hdl := (hs j hj).2.2.2.2.2.2
  unfold bg bgn at *
  refine ⟨fun h => by omega, fun h h' y' => ?_, fun h h' => ?_⟩
  · have h28 := dlen_ge (y := y') (m := m - 1) (by omega) (by omega)
    by_cases e : (S j).m = m - 1
    · rw [e] at hdl ⊢
      have := no_2001 (m := m - 1) (by omega) (by omega) y'
      omega
    · omega
  · omega
theorem Back.day {S : Nat → Se} {sl n : Nat} {now y m d : Int} (hs : ∀ i, i < sl → SeIs (S i)) (h : Back S sl now n y m d) (hno : ∀ i, i < sl → ¬ ((S i).m = m ∧ (S i).d = d)) (hd : 1 < d) : Back S sl now (n + 1) y m (d - 1) := by
  obtain ⟨h1, h2, h3⟩ := h
  refine ⟨h1, by omega, ?_⟩
  rcases h3 with h | ⟨a, b, c⟩ | ⟨a, b, c⟩
  · exact .inl h
  · exact .inr (.inl ⟨by unfold bgn at *; omega, fun j hj hq => (below_of hs h1 h2 hno hj (b j hj hq)).1 hd, by unfold pos at *; omega⟩)
  · exact .inr (.inr ⟨a, fun j hj => (below_of hs h1 h2 hno hj (b j hj)).1 hd, by unfold pos at *; omega⟩)
theorem Back.month {S : Nat → Se} {sl n : Nat} {now y m : Int} (hs : ∀ i, i < sl → SeIs (S i)) (h : Back S sl now n y m 1) (hno : ∀ i, i < sl → ¬ ((S i).m = m ∧ (S i).d = 1)) (hm : 1 < m) : Back S sl now (n + 1) y (m - 1) (dlen y (m - 1)) := by
  obtain ⟨h1, h2, h3⟩ := h
  have h28 := dlen_ge (y := y) (m := m - 1) (by omega) (by omega)
  have h31 := dlen_bounds (y := y) (m := m - 1)
  refine ⟨by omega, by omega, ?_⟩
  rcases h3 with h | ⟨a, b, c⟩ | ⟨a, b, c⟩
  · exact .inl h
  · exact .inr (.inl ⟨by unfold bgn at *; omega, fun j hj hq => (below_of hs h1 h2 hno hj (b j hj hq)).2.1 rfl hm y, by unfold pos at *; omega⟩)
  · exact .inr (.inr ⟨a, fun j hj => (below_of hs h1 h2 hno hj (b j hj)).2.1 rfl hm y, by unfold pos at *; omega⟩)
theorem dlen_dec (y : Int) : dlen y 12 = 31 := by simp [dlen, mlen]
theorem Back.year {S : Nat → Se} {sl n : Nat} {now y : Int} (hs : ∀ i, i < sl → SeIs (S i)) (h : Back S sl now n y 1 1) (hno : ∀ i, i < sl → ¬ ((S i).m = 1 ∧ (S i).d = 1)) : Back S sl now (n + 1) (y - 1) 12 (dlen (y - 1) 12) := by
  obtain ⟨h1, h2, h3⟩ := h
  rw [Back, dlen_dec]
  refine ⟨by omega, by omega, ?_⟩
  rcases h3 with h | ⟨a, b, c⟩ | ⟨a, b, c⟩
  · exact .inl h
  · refine .inr (.inr ⟨fun j hj => ?_, fun j hj => ?_, by unfold pos at *; omega⟩)
    · by_cases q : bg S j ≤ now
      · exact absurd rfl ((below_of hs h1 h2 hno hj (b j hj q)).2.2 rfl)
      · omega
    · have := bg_bounds hs hj
      unfold bgn
      omega
  · by_cases h0 : sl = 0
    · exact .inl h0
    · exact absurd rfl ((below_of hs h1 h2 hno (show 0 < sl by omega) (b 0 (by omega))).2.2 rfl)
end Go.Proofs.YtgedcfgmfhlkdaaDoor
