/- Sums of bits: what one bit does to a sum, what bits do one after another, and that all of it is linear. -/
import Derived.Laws.BitsLemmas
set_option linter.unusedVariables false
set_option linter.unusedSimpArgs false
namespace Go.Proofs.Ytpcbolmidnoaiaa
def upto {α : Type} (f : Nat → α) (k : Nat) : List α := (List.range k).map f
theorem upto_succ {α : Type} (f : Nat → α) (k : Nat) : upto f (k + 1) = upto f k ++ [f k] := by simp [upto, List.range_succ]
theorem upto_length {α : Type} (f : Nat → α) (k : Nat) : (upto f k).length = k := by simp [upto]
theorem upto_congr {α : Type} {f g : Nat → α} {k : Nat} (h : ∀ j, j < k → f j = g j) : upto f k = upto g k := by
  apply List.map_congr_left
  intro j hj
  exact h j (List.mem_range.1 hj)
theorem upto_add {α : Type} (f : Nat → α) (k m : Nat) : upto f (k + m) = upto f k ++ upto (fun j => f (k + j)) m := by
  induction m with
  | zero => simp [upto]
  | succ m ih => rw [← Nat.add_assoc, upto_succ, ih, upto_succ, List.append_assoc]
/-- One bit into a sum. -/
def step (P s : Nat) (b : Bool) : Nat := if (s.testBit 0 ^^ b) then (s / 2) ^^^ P else s / 2
/-- Bits into a sum, one after another. -/
def run (P s : Nat) (bs : List Bool) : Nat := bs.foldl (step P) s
theorem run_nil (P s : Nat) : run P s [] = s := rfl
theorem run_snoc (P s : Nat) (bs : List Bool) (b : Bool) : run P s (bs ++ [b]) = step P (run P s bs) b := by simp [run]
theorem run_append (P s : Nat) (as bs : List Bool) : run P s (as ++ bs) = run P (run P s as) bs := by simp [run]
def zz (n : Nat) : List Bool := List.replicate n false
theorem xor_div2 (a b : Nat) : (a ^^^ b) / 2 = (a / 2) ^^^ (b / 2) := by
  apply Nat.eq_of_testBit_eq
  intro i
  rw [← Nat.testBit_succ, Nat.testBit_xor, Nat.testBit_xor, Nat.testBit_succ, Nat.testBit_succ]
theorem xlc (a b c : Nat) : a ^^^ (b ^^^ c) = b ^^^ (a ^^^ c) := by rw [← Nat.xor_assoc, Nat.xor_comm a b, Nat.xor_assoc]
theorem xx (a b : Nat) : a ^^^ (a ^^^ b) = b := by rw [← Nat.xor_assoc, Nat.xor_self, Nat.zero_xor]
theorem xor4 (a b c d : Nat) : (a ^^^ b) ^^^ (c ^^^ d) = (a ^^^ c) ^^^ (b ^^^ d) := by
  rw [Nat.xor_assoc, Nat.xor_assoc, ← Nat.xor_assoc b, Nat.xor_comm b c, Nat.xor_assoc]
theorem step_xor (P s t : Nat) (a b : Bool) : step P (s ^^^ t) (a ^^ b) = step P s a ^^^ step P t b := by
  unfold step
  rw [Nat.testBit_xor, xor_div2]
  generalize s / 2 = s'
  generalize t / 2 = t'
  cases s.testBit 0 <;> cases t.testBit 0 <;> cases a <;> cases b <;> simp <;> (apply Nat.eq_of_testBit_eq; intro i; simp only [Nat.testBit_xor]; cases s'.testBit i <;> cases t'.testBit i <;> cases P.testBit i <;> rfl)
theorem step_zero (P : Nat) : step P 0 false = 0 := by simp [step]
theorem step_lt {P n : Nat} (hP : P < 2 ^ n) {s : Nat} (hs : s < 2 ^ n) (b : Bool) : step P s b < 2 ^ n := by
  have h2 : s / 2 < 2 ^ n := by omega
  unfold step
  split
  · exact Nat.xor_lt_two_pow h2 hP
  · exact h2
theorem run_lt {P n : Nat} (hP : P < 2 ^ n) (bs : List Bool) : ∀ {s : Nat}, s < 2 ^ n → run P s bs < 2 ^ n := by
  induction bs with
  | nil => intro s h; exact h
  | cons b bs ih => intro s h; exact ih (step_lt hP h b)
theorem run_xor (P : Nat) (f g : Nat → Bool) (n : Nat) : ∀ s t, run P (s ^^^ t) (upto (fun j => f j ^^ g j) n) = run P s (upto f n) ^^^ run P t (upto g n) := by
  intro s t
  induction n with
  | zero => rfl
  | succ n ih => rw [upto_succ, upto_succ, upto_succ, run_snoc, run_snoc, run_snoc, ih, step_xor]
/-- A word put on the sum at once, then shifted out: as bit by bit. -/
theorem run_word (P s c : Nat) (n : Nat) : run P (s ^^^ c) (zz n) = run P s (upto c.testBit n) ^^^ (c >>> n) := by
  induction n with
  | zero => rfl
  | succ n ih =>
    have e : zz (n + 1) = zz n ++ [false] := by simp [zz, List.replicate_succ']
    rw [e, run_snoc, ih, upto_succ, run_snoc]
    generalize run P s (upto c.testBit n) = a
    have hb : (c >>> n).testBit 0 = c.testBit n := by simp
    have hd : (c >>> (n + 1)) = (c >>> n) / 2 := by rw [Nat.shiftRight_succ]
    rw [hd, ← hb]
    generalize c >>> n = d
    unfold step
    rw [Nat.testBit_xor, xor_div2]
    generalize a / 2 = a'
    generalize d / 2 = d'
    cases a.testBit 0 <;> cases d.testBit 0 <;> simp <;> (apply Nat.eq_of_testBit_eq; intro i; simp only [Nat.testBit_xor]; cases a'.testBit i <;> cases d'.testBit i <;> cases P.testBit i <;> rfl)
/-- A sum's own bits empty it. -/
theorem run_own (P s n : Nat) (hs : s < 2 ^ n) : run P s (upto s.testBit n) = 0 := by
  have h := run_word P s s n
  rw [Nat.xor_self, Nat.shiftRight_eq_div_pow, Nat.div_eq_of_lt hs, Nat.xor_zero] at h
  rw [← h]
  clear h
  induction n with
  | zero => rfl
  | succ n ih =>
    have e : zz (n + 1) = zz n ++ [false] := by simp [zz, List.replicate_succ']
    have : ∀ m, run P 0 (zz m) = 0 := by
      intro m
      induction m with
      | zero => rfl
      | succ m ih2 =>
        have e : zz (m + 1) = zz m ++ [false] := by simp [zz, List.replicate_succ']
        rw [e, run_snoc, ih2, step_zero]
    exact this _
theorem run_zz (P m : Nat) : run P 0 (zz m) = 0 := by
  induction m with
  | zero => rfl
  | succ m ih2 =>
    have e : zz (m + 1) = zz m ++ [false] := by simp [zz, List.replicate_succ']
    rw [e, run_snoc, ih2, step_zero]
/-- With the top bit in the polynomial, a bit 0 leads no two sums together. -/
theorem step_inj {P n : Nat} (hP : P.testBit n = true) {s t : Nat} (hs : s < 2 ^ (n + 1)) (ht : t < 2 ^ (n + 1)) (h : step P s false = step P t false) : s = t := by
  have top : ∀ x, x < 2 ^ (n + 1) → (x / 2).testBit n = false := fun x hx => Nat.testBit_lt_two_pow (by omega)
  have hs2 := top s hs
  have ht2 := top t ht
  have p0 : ∀ x : Nat, x.testBit 0 = decide (x % 2 = 1) := fun x => by simp [Nat.testBit_zero]
  unfold step at h
  simp only [Bool.xor_false] at h
  have tb := congrArg (fun x => x.testBit n) h
  cases h1 : s.testBit 0 <;> cases h2 : t.testBit 0 <;> rw [h1, h2] at h <;> simp [h1, h2, Nat.testBit_xor, hP, hs2, ht2] at tb h
  · rw [p0] at h1 h2; simp at h1 h2; omega
  · have := congrArg (fun x => x ^^^ P) h
    simp only [Nat.xor_assoc, Nat.xor_self, Nat.xor_zero] at this
    rw [p0] at h1 h2; simp at h1 h2; omega
theorem run_zz_ne {P n : Nat} (hP : P.testBit n = true) (hl : P < 2 ^ (n + 1)) (m : Nat) : ∀ {s}, s < 2 ^ (n + 1) → s ≠ 0 → run P s (zz m) ≠ 0 := by
  induction m with
  | zero => intro s _ h; exact h
  | succ m ih =>
    intro s hs h0 he
    refine ih (s := step P s false) (step_lt hl hs _) (fun e => h0 ?_) he
    exact step_inj hP hs (by exact Nat.two_pow_pos _) (e.trans (step_zero P).symm)
end Go.Proofs.Ytpcbolmidnoaiaa
