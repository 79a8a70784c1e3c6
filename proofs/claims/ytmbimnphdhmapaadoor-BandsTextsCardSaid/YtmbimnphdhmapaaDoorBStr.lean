/- The stretches of a plan, as numbers. -/
import Derived.Test.YtmbimnphdhmapaaDoorBMath
set_option linter.unusedVariables false
namespace Go.Proofs.YtmbimnphdhmapaaDoor
open Go.RowKit Go.Shelf
structure St where
  b : Int
  e : Int
  d : Int
deriving DecidableEq
/-- What stands behind k switches: the stretches that are over, and the begin and the band of the one that goes on. -/
def stN (L : Nat → Sw) : Nat → List St × Int × Int
  | 0 => ([], 0, (L 0).b)
  | k + 1 => if (L k).b = (stN L k).2.2 then stN L k else ((stN L k).1 ++ [⟨(stN L k).2.1, (L k).m, (stN L k).2.2⟩], (L k).m, (L k).b)
def stsOf (L : Nat → Sw) (k : Nat) : List St := (stN L k).1
def begOf (L : Nat → Sw) (k : Nat) : Int := (stN L k).2.1
def bndOf (L : Nat → Sw) (k : Nat) : Int := (stN L k).2.2
def strs (L : Nat → Sw) (len : Nat) : List St := stsOf L len ++ [⟨begOf L len, 1440, bndOf L len⟩]
theorem st_zero (L : Nat → Sw) : stsOf L 0 = [] ∧ begOf L 0 = 0 ∧ bndOf L 0 = (L 0).b := ⟨rfl, rfl, rfl⟩
theorem st_same {L : Nat → Sw} {k : Nat} (h : (L k).b = bndOf L k) : stsOf L (k + 1) = stsOf L k ∧ begOf L (k + 1) = begOf L k ∧ bndOf L (k + 1) = bndOf L k := by
  have h' : (L k).b = (stN L k).2.2 := h
  unfold stsOf begOf bndOf
  rw [stN, if_pos h']
  exact ⟨rfl, rfl, rfl⟩
theorem st_new {L : Nat → Sw} {k : Nat} (h : (L k).b ≠ bndOf L k) : stsOf L (k + 1) = stsOf L k ++ [⟨begOf L k, (L k).m, bndOf L k⟩] ∧ begOf L (k + 1) = (L k).m ∧ bndOf L (k + 1) = (L k).b := by
  have h' : ¬ (L k).b = (stN L k).2.2 := h
  unfold stsOf begOf bndOf
  rw [stN, if_neg h']
  exact ⟨rfl, rfl, rfl⟩
theorem bnd_succ (L : Nat → Sw) (k : Nat) : bndOf L (k + 1) = (L k).b := by
  by_cases h : (L k).b = bndOf L k
  · rw [(st_same h).2.2, h]
  · exact (st_new h).2.2
theorem sts_prefix (L : Nat → Sw) {k n : Nat} (h : k ≤ n) : stsOf L k <+: stsOf L n := by
  induction n with
  | zero => obtain rfl : k = 0 := by omega
            exact List.prefix_refl _
  | succ n ih =>
    rcases Nat.lt_or_ge n k with hl | hl
    · obtain rfl : k = n + 1 := by omega
      exact List.prefix_refl _
    · refine (ih hl).trans ?_
      by_cases q : (L n).b = bndOf L n
      · rw [(st_same q).1]; exact List.prefix_refl _
      · rw [(st_new q).1]; exact List.prefix_append _ _
theorem sts_strs (L : Nat → Sw) {k n : Nat} (h : k ≤ n) : stsOf L k <+: strs L n := (sts_prefix L h).trans (List.prefix_append _ _)
theorem sts_len (L : Nat → Sw) (k : Nat) : (stsOf L k).length ≤ k := by
  induction k with
  | zero => exact Nat.le_refl _
  | succ n ih =>
    by_cases q : (L n).b = bndOf L n
    · rw [(st_same q).1]; omega
    · rw [(st_new q).1]; simp; omega
theorem strs_len (L : Nat → Sw) (k : Nat) : (strs L k).length ≤ k + 1 := by have := sts_len L k; simp [strs]; omega
/-- The band of the first stretch of a list, or d. -/
def hdB : List St → Int → Int
  | [], d => d
  | s :: _, _ => s.d
/-- Stretches from a to c, without a hole; behind them comes band d. -/
def Runs (f : Int → Int) : Int → List St → Int → Int → Prop
  | a, [], c, _ => a = c
  | a, s :: r, c, d => s.b = a ∧ s.b < s.e ∧ (∀ x, s.b ≤ x → x < s.e → f x = s.d) ∧ hdB r d ≠ s.d ∧ Runs f s.e r c d
theorem hdB_snoc (l : List St) (s : St) (d : Int) : hdB (l ++ [s]) d = hdB l s.d := by cases l <;> rfl
theorem Runs.snoc {f : Int → Int} {b d : Int} {s : St} {d' : Int} (hb : s.b = b) (hd : s.d = d) (he : b < s.e) (hc : ∀ x, b ≤ x → x < s.e → f x = d) (hn : d' ≠ d) : ∀ {l : List St} {a : Int}, Runs f a l b d → Runs f a (l ++ [s]) s.e d'
  | [], a, h => by
    obtain rfl : a = b := h
    refine ⟨hb, by omega, fun x h0 h1 => ?_, ?_, rfl⟩
    · rw [hd]; exact hc x (by omega) h1
    · show d' ≠ s.d; rw [hd]; exact hn
  | t :: r, a, h => by
    obtain ⟨h1, h2, h3, h4, h5⟩ := h
    exact ⟨h1, h2, h3, by show hdB (r ++ [s]) d' ≠ t.d; rw [hdB_snoc, hd]; exact h4, Runs.snoc hb hd he hc hn h5⟩
theorem Runs.le {f : Int → Int} {c d : Int} : ∀ {l : List St} {a : Int}, Runs f a l c d → a ≤ c
  | [], a, h => by have : a = c := h; omega
  | t :: r, a, h => by
    obtain ⟨h1, h2, h3, h4, h5⟩ := h
    have := Runs.le h5
    omega
/-- A list of stretches is told by the minutes' bands. -/
theorem Runs.unique {f g : Int → Int} {c d d' : Int} : ∀ {l q : List St} {a : Int}, Runs f a l c d → Runs g a q c d' → (∀ x, a ≤ x → x < c → f x = g x) → l = q
  | [], [], _, _, _, _ => rfl
  | [], t :: q, a, h, k, _ => by
    have e : a = c := h
    obtain ⟨k1, k2, _, _, k5⟩ := k
    have := Runs.le k5
    omega
  | s :: r, [], a, h, k, _ => by
    have e : a = c := k
    obtain ⟨k1, k2, _, _, k5⟩ := h
    have := Runs.le k5
    omega
  | s :: r, t :: q, a, h, k, hfg => by
    obtain ⟨h1, h2, h3, h4, h5⟩ := h
    obtain ⟨k1, k2, k3, k4, k5⟩ := k
    have hl := Runs.le h5
    have kl := Runs.le k5
    have hd : s.d = t.d := by
      rw [← h3 a (by omega) (by omega), ← k3 a (by omega) (by omega)]
      exact hfg a (Int.le_refl _) (by omega)
    have he : s.e = t.e := by
      rcases Int.lt_trichotomy s.e t.e with z | z | z
      · exfalso
        cases r with
        | nil => have : s.e = c := h5
                 omega
        | cons u r =>
          obtain ⟨m1, m2, m3, _, m5⟩ := h5
          have e1 := m3 s.e (by omega) (by omega)
          have e2 := k3 s.e (by omega) z
          rw [hfg s.e (by omega) (by omega), e2, ← hd] at e1
          exact h4 e1.symm
      · exact z
      · exfalso
        cases q with
        | nil => have : t.e = c := k5
                 omega
        | cons u r =>
          obtain ⟨m1, m2, m3, _, m5⟩ := k5
          have e1 := m3 t.e (by omega) (by omega)
          have e2 := h3 t.e (by omega) z
          rw [← hfg t.e (by omega) (by omega), e2, hd] at e1
          exact k4 e1.symm
    have hst : s = t := by
      obtain ⟨sb, se, sd⟩ := s
      obtain ⟨tb, te, td⟩ := t
      simp only at h1 k1 hd he
      rw [h1, k1, hd, he]
    subst hst
    rw [Runs.unique h5 k5 (fun x h0 h1 => hfg x (by omega) h1)]
/-- The band that a list says of a minute. -/
def bndAt : List St → Int → Int
  | [], _ => 0
  | s :: r, x => if x < s.e then s.d else bndAt r x
theorem Runs.at {f : Int → Int} {c d x : Int} (hx : x < c) : ∀ {l : List St} {a : Int}, Runs f a l c d → a ≤ x → f x = bndAt l x
  | [], a, h, h0 => by have : a = c := h; omega
  | s :: r, a, h, h0 => by
    obtain ⟨h1, h2, h3, h4, h5⟩ := h
    unfold bndAt
    by_cases q : x < s.e
    · rw [if_pos q]; exact h3 x (by omega) q
    · rw [if_neg q]; exact Runs.at hx h5 (by omega)
/-- The first stretch that ends behind a minute. -/
theorem Runs.hit {f : Int → Int} {c d x : Int} {s : St} {r : List St} (hx : x < s.e) : ∀ {q : List St} {a : Int}, Runs f a (q ++ s :: r) c d → a ≤ x → (∀ z ∈ q, ¬ x < z.e) → s.b ≤ x ∧ s.e ≤ c ∧ (∀ j, s.b ≤ j → j < s.e → f j = s.d) ∧ (s.e = c ∨ f s.e ≠ s.d)
  | [], a, h, h0, _ => by
    obtain ⟨h1, h2, h3, h4, h5⟩ := h
    refine ⟨by omega, Runs.le h5, h3, ?_⟩
    cases r with
    | nil => exact .inl h5
    | cons t r =>
      obtain ⟨k1, k2, k3, _, _⟩ := h5
      refine .inr ?_
      rw [k3 s.e (by omega) (by omega)]
      exact h4
  | z :: q, a, h, h0, hq => by
    obtain ⟨h1, h2, h3, h4, h5⟩ := h
    exact Runs.hit hx h5 (by have := hq z (by simp); omega) (fun y hy => hq y (by simp [hy]))
/-- The band of a minute behind the k-th switch, ahead of the next one. -/
theorem bandN_here {L : Nat → Sw} {len : Nat} (hp : PlanIs L len) {j : Nat} (hj : j < len) {x : Int} (h0 : (L j).m ≤ x) (h1 : j + 1 < len → x < (L (j + 1)).m) : bandN L len x = (L j).b := by
  have up : ∀ n, j + 1 ≤ n → n ≤ len → bandN L n x = (L j).b := by
    intro n hn hl
    induction n with
    | zero => omega
    | succ n ih =>
      unfold bandN
      rcases Nat.lt_or_ge j n with q | q
      · have asc : ∀ i, j + 1 ≤ i → i < len → (L (j + 1)).m ≤ (L i).m := by
          intro i hi hil
          induction i with
          | zero => omega
          | succ i ih2 =>
            rcases Nat.lt_or_ge j i with u | u
            · have := ih2 (by omega) (by omega)
              have h := (hp.2.2.2 (i + 1) hil).2.2.2 (by omega)
              simp only [Nat.add_sub_cancel] at h
              omega
            · obtain rfl : i = j := by omega
              exact Int.le_refl _
        have a1 := asc n (by omega) (by omega)
        have a2 := h1 (by omega)
        rw [if_neg (by omega)]
        exact ih (by omega) (by omega)
      · obtain rfl : n = j := by omega
        rw [if_pos h0]
  exact up len (by omega) (Nat.le_refl _)
/-- Where the stretch behind k switches must end. -/
def nextM (L : Nat → Sw) (len k : Nat) : Int := if k < len then (L k).m else 1440
theorem runs_upto {L : Nat → Sw} {len : Nat} (hp : PlanIs L len) {k : Nat} (hk : k < len) : Runs (bandN L len) 0 (stsOf L (k + 1)) (begOf L (k + 1)) (bndOf L (k + 1)) ∧ begOf L (k + 1) ≤ (L k).m ∧ (∀ x, begOf L (k + 1) ≤ x → x < nextM L len (k + 1) → bandN L len x = bndOf L (k + 1)) := by
  have last : ∀ k, k < len → ∀ x, (L k).m ≤ x → x < nextM L len (k + 1) → bandN L len x = (L k).b := fun k hk x h0 h1 => bandN_here hp hk h0 (fun q => by unfold nextM at h1; rw [if_pos q] at h1; exact h1)
  induction k with
  | zero =>
    have h0 := (st_zero L).2.2
    obtain ⟨e1, e2, e3⟩ := st_same (L := L) (k := 0) rfl
    rw [e1, e2, e3, (st_zero L).1, (st_zero L).2.1, (st_zero L).2.2]
    have hm := hp.2.2.1
    exact ⟨rfl, by omega, fun x g0 g1 => last 0 hk x (by omega) g1⟩
  | succ k ih =>
    obtain ⟨i1, i2, i3⟩ := ih (by omega)
    have hasc := (hp.2.2.2 (k + 1) hk).2.2.2 (by omega)
    simp only [Nat.add_sub_cancel] at hasc
    have hnx : nextM L len (k + 1) = (L (k + 1)).m := if_pos hk
    rw [hnx] at i3
    by_cases q : (L (k + 1)).b = bndOf L (k + 1)
    · obtain ⟨e1, e2, e3⟩ := st_same q
      rw [e1, e2, e3]
      refine ⟨i1, by omega, fun x g0 g1 => ?_⟩
      by_cases z : x < (L (k + 1)).m
      · exact i3 x g0 z
      · rw [← q]; exact last (k + 1) hk x (by omega) g1
    · obtain ⟨e1, e2, e3⟩ := st_new q
      rw [e1, e2, e3]
      exact ⟨i1.snoc rfl rfl (by show begOf L (k + 1) < (L (k + 1)).m; omega) i3 q, Int.le_refl _, last (k + 1) hk⟩
theorem runs_all {L : Nat → Sw} {len : Nat} (hp : PlanIs L len) : Runs (bandN L len) 0 (strs L len) 1440 (-1) := by
  obtain ⟨k, rfl⟩ : ∃ k, len = k + 1 := ⟨len - 1, by have := hp.1; omega⟩
  obtain ⟨h1, h2, h3⟩ := runs_upto hp (k := k) (by omega)
  have hn : nextM L (k + 1) (k + 1) = 1440 := if_neg (by omega)
  rw [hn] at h3
  have hk := (hp.2.2.2 k (by omega))
  have hk0 : 0 ≤ (L k).b := hk.1
  have hk1 : (L k).m < 1440 := hk.2.2.1
  have hlt : begOf L (k + 1) < 1440 := by omega
  have hne : (-1 : Int) ≠ bndOf L (k + 1) := by rw [bnd_succ]; omega
  exact Runs.snoc (s := ⟨begOf L (k + 1), 1440, bndOf L (k + 1)⟩) rfl rfl hlt h3 hne h1
/-- The stretches of a plan that is one: begin, end and band. -/
theorem strs_in {L : Nat → Sw} {len : Nat} (hp : PlanIs L len) {s : St} (hs : s ∈ strs L len) : 0 ≤ s.b ∧ s.b < s.e ∧ s.e ≤ 1440 ∧ 0 ≤ s.d ∧ s.d ≤ 7 := by
  have all : ∀ {l : List St} {a : Int}, 0 ≤ a → Runs (bandN L len) a l 1440 (-1) → ∀ s ∈ l, 0 ≤ s.b ∧ s.b < s.e ∧ s.e ≤ 1440 ∧ 0 ≤ s.d ∧ s.d ≤ 7 := by
    intro l
    induction l with
    | nil => intro a _ _ s hs; cases hs
    | cons t r ih =>
      intro a ha h s hs
      obtain ⟨h1, h2, h3, h4, h5⟩ := h
      have hle := Runs.le h5
      rcases List.mem_cons.1 hs with rfl | hs
      · have hb := bandN_range len hp.2.2.2 s.b
        rw [h3 s.b (Int.le_refl _) h2] at hb
        exact ⟨by omega, h2, hle, hb.1, hb.2⟩
      · exact ih (by omega) h5 s hs
  exact all (Int.le_refl _) (runs_all hp) s hs
/-- The stretch that a search finds, as Band and Next say it. -/
theorem strs_hit {L : Nat → Sw} {len : Nat} (hp : PlanIs L len) {q : List St} {s : St} {x : Int} (hpre : q ++ [s] <+: strs L len) (h0 : 0 ≤ x) (hq : ∀ z ∈ q, ¬ x < z.e) (hx : x < s.e) :
    s.d = bandN L len x ∧ (s.e = 1440 → BNext L len x 0 false) ∧ (s.e ≠ 1440 → BNext L len x s.e true) := by
  obtain ⟨r, hr⟩ := hpre
  have hR := runs_all hp
  rw [← hr, List.append_assoc] at hR
  obtain ⟨h1, h2, h3, h4⟩ := Runs.hit hx (q := q) (s := s) (r := r) hR h0 hq
  have hb : bandN L len x = s.d := h3 x h1 hx
  refine ⟨hb.symm, fun e => .inr ⟨rfl, rfl, fun j g0 g1 => ?_⟩, fun e => .inl ⟨rfl, hx, by omega, ?_, fun j g0 g1 => ?_⟩⟩
  · rw [hb]; exact h3 j (by omega) (by omega)
  · rw [hb]
    rcases h4 with h4 | h4
    · exact absurd h4 e
    · exact h4
  · rw [hb]; exact h3 j (by omega) g1
theorem strs_last (L : Nat → Sw) (len : Nat) (x : Int) (hx : x < 1440) (hq : ∀ z ∈ strs L len, ¬ x < z.e) : False :=
  hq ⟨begOf L len, 1440, bndOf L len⟩ (by simp [strs]) hx
/-- Two plans have the same stretches just if each minute has one band in both. -/
theorem strs_same {L M : Nat → Sw} {len len' : Nat} (hL : PlanIs L len) (hM : PlanIs M len') : strs L len = strs M len' ↔ SameP L len M len' := by
  constructor
  · intro h
    refine ⟨hL, hM, fun n hn => ?_⟩
    rw [(runs_all hL).at (x := (n : Int)) (by omega) (by omega), (runs_all hM).at (x := (n : Int)) (by omega) (by omega), h]
  · intro h
    refine Runs.unique (runs_all hL) (runs_all hM) (fun x h0 h1 => ?_)
    have := h.2.2 x.toNat (by omega)
    rwa [show ((x.toNat : Nat) : Int) = x by omega] at this
/-- How many minutes of these stretches have band b. -/
def mins : List St → Int → Int
  | [], _ => 0
  | s :: r, b => (if s.d = b then s.e - s.b else 0) + mins r b
theorem mins_snoc (l : List St) (s : St) (b : Int) : mins (l ++ [s]) b = mins l b + (if s.d = b then s.e - s.b else 0) := by
  induction l with
  | nil => simp [mins]
  | cons t r ih => rw [List.cons_append, mins, mins, ih]; omega
theorem cntN_run {L : Nat → Sw} {len b a : Nat} {d : Int} : ∀ {n : Nat}, (∀ i : Nat, i < n → bandN L len ((a + i : Nat) : Int) = d) → cntN L len b (a + n) = cntN L len b a + (if d = b then n else 0)
  | 0, _ => by simp
  | n + 1, h => by
    rw [show a + (n + 1) = (a + n) + 1 by omega, cntN, cntN_run (fun i hi => h i (by omega)), h n (by omega)]
    by_cases q : d = (b : Int)
    · rw [if_pos q, if_pos q, if_pos q]; omega
    · rw [if_neg q, if_neg q, if_neg q]
theorem Runs.mins {L : Nat → Sw} {len b : Nat} {c : Nat} {d : Int} : ∀ {l : List St} {a : Nat}, Runs (bandN L len) a l c d → (cntN L len b c : Int) = cntN L len b a + mins l b
  | [], a, h => by
    have e : (a : Int) = c := h
    obtain rfl : a = c := by omega
    simp [Go.Proofs.YtmbimnphdhmapaaDoor.mins]
  | s :: r, a, h => by
    obtain ⟨h1, h2, h3, h4, h5⟩ := h
    obtain ⟨n, hn⟩ : ∃ n : Nat, s.e = ((a + n : Nat) : Int) := ⟨(s.e - a).toNat, by omega⟩
    rw [hn] at h5
    have ih := Runs.mins (b := b) h5
    have hc := cntN_run (L := L) (len := len) (b := b) (a := a) (d := s.d) (n := n) (fun i hi => h3 _ (by omega) (by omega))
    unfold Go.Proofs.YtmbimnphdhmapaaDoor.mins
    rw [ih, hc]
    by_cases q : s.d = (b : Int)
    · rw [if_pos q, if_pos q]; omega
    · rw [if_neg q, if_neg q]; omega
theorem mins_all {L : Nat → Sw} {len : Nat} (hp : PlanIs L len) (b : Nat) : mins (strs L len) b = cntN L len b 1440 := by
  have := Runs.mins (b := b) (a := 0) (c := 1440) (runs_all hp)
  have h0 : cntN L len b 0 = 0 := rfl
  rw [h0] at this
  omega
end Go.Proofs.YtmbimnphdhmapaaDoor
