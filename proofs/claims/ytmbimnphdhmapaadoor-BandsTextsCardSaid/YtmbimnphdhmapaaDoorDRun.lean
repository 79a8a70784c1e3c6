/- The document's Parse as a function. -/
import Derived.Test.YtmbimnphdhmapaaDoorDRText
set_option linter.unusedVariables false
set_option linter.unusedSimpArgs false
namespace Go.Proofs.YtmbimnphdhmapaaDoor
open Go.Lib
structure PS where
  out : List Sw
  x : Sw
  sec : Bool
def init0 : PS := ⟨[], ⟨0, 0⟩, false⟩
def stepP (st : PS) (c : UInt8) : Option PS :=
  if c = 32 then some ⟨st.out ++ [st.x], ⟨0, 0⟩, false⟩ else if c = 58 then some ⟨st.out, st.x, true⟩ else if c.toNat < 48 ∨ 57 < c.toNat then none
  else if st.sec = true then some ⟨st.out, ⟨st.x.m, min (10 * st.x.b + ((c.toNat : Int) - 48)) 100000⟩, true⟩ else some ⟨st.out, ⟨min (10 * st.x.m + ((c.toNat : Int) - 48)) 100000, st.x.b⟩, false⟩
def runP (st : PS) : List UInt8 → Option PS
  | [] => some st
  | c :: r => match stepP st c with
    | some st' => runP st' r
    | none => none
theorem runP_app (st : PS) : ∀ (a b : List UInt8), runP st (a ++ b) = match runP st a with
    | some st' => runP st' b
    | none => none := by
  intro a
  induction a generalizing st with
  | nil => intro b; rfl
  | cons c r ih =>
    intro b
    simp only [List.cons_append, runP]
    cases stepP st c with
    | none => rfl
    | some st' => exact ih st' b
theorem step_dig {st : PS} {d : Nat} (h : d < 10) : stepP st (UInt8.ofNat (48 + d)) = if st.sec = true then some ⟨st.out, ⟨st.x.m, min (10 * st.x.b + (d : Int)) 100000⟩, true⟩ else some ⟨st.out, ⟨min (10 * st.x.m + (d : Int)) 100000, st.x.b⟩, false⟩ := by
  have ht := dig_nat d h
  unfold stepP
  rw [if_neg (fun e => by rw [e] at ht; revert ht; simp; omega), if_neg (fun e => by rw [e] at ht; revert ht; simp; omega), if_neg (by omega), ht]
  have e : (((48 + d : Nat) : Int) - 48) = d := by omega
  rw [e]
theorem run_min : ∀ (n u : Nat), u ≤ n → u < 100000 → ∀ (out : List Sw) (b : Int) r, runP ⟨out, ⟨0, b⟩, false⟩ (decDigits u ++ r) = runP ⟨out, ⟨u, b⟩, false⟩ r := by
  intro n
  induction n with
  | zero =>
    intro u hu _ out b r
    obtain rfl : u = 0 := by omega
    rw [decDigits, dif_pos (by omega)]
    simp only [List.cons_append, List.nil_append, runP, step_dig (show 0 < 10 by omega)]
    simp only [Bool.false_eq_true, if_false]
    rw [show min (10 * (0 : Int) + ((0 : Nat) : Int)) 100000 = ((0 : Nat) : Int) by omega]
  | succ n ih =>
    intro u hu hl out b r
    by_cases h : u < 10
    · rw [decDigits, dif_pos h]
      simp only [List.cons_append, List.nil_append, runP, step_dig h]
      simp only [Bool.false_eq_true, if_false]
      rw [show min (10 * (0 : Int) + (u : Int)) 100000 = u by omega]
    · rw [decDigits, dif_neg h, List.append_assoc, ih (u / 10) (by omega) (by omega)]
      simp only [List.cons_append, List.nil_append, runP, step_dig (show u % 10 < 10 by omega)]
      simp only [Bool.false_eq_true, if_false]
      rw [show min (10 * ((u / 10 : Nat) : Int) + ((u % 10 : Nat) : Int)) 100000 = u by omega]
theorem run_bnd : ∀ (n u : Nat), u ≤ n → u < 100000 → ∀ (out : List Sw) (m : Int) r, runP ⟨out, ⟨m, 0⟩, true⟩ (decDigits u ++ r) = runP ⟨out, ⟨m, u⟩, true⟩ r := by
  intro n
  induction n with
  | zero =>
    intro u hu _ out b r
    obtain rfl : u = 0 := by omega
    rw [decDigits, dif_pos (by omega)]
    simp only [List.cons_append, List.nil_append, runP, step_dig (show 0 < 10 by omega)]
    simp only [if_true]
    rw [show min (10 * (0 : Int) + ((0 : Nat) : Int)) 100000 = ((0 : Nat) : Int) by omega]
  | succ n ih =>
    intro u hu hl out b r
    by_cases h : u < 10
    · rw [decDigits, dif_pos h]
      simp only [List.cons_append, List.nil_append, runP, step_dig h]
      simp only [if_true]
      rw [show min (10 * (0 : Int) + (u : Int)) 100000 = u by omega]
    · rw [decDigits, dif_neg h, List.append_assoc, ih (u / 10) (by omega) (by omega)]
      simp only [List.cons_append, List.nil_append, runP, step_dig (show u % 10 < 10 by omega)]
      simp only [if_true]
      rw [show min (10 * ((u / 10 : Nat) : Int) + ((u % 10 : Nat) : Int)) 100000 = u by omega]
theorem run_sw {x : Sw} (h : 0 ≤ x.m ∧ x.m < 10000 ∧ 0 ≤ x.b ∧ x.b < 10000) (out : List Sw) (r : List UInt8) : runP ⟨out, ⟨0, 0⟩, false⟩ (swL x ++ 32 :: r) = runP ⟨out ++ [x], ⟨0, 0⟩, false⟩ r := by
  obtain ⟨m, b⟩ := x
  simp only at h
  obtain ⟨u, rfl⟩ : ∃ u : Nat, m = (u : Int) := ⟨m.toNat, by omega⟩
  obtain ⟨v, rfl⟩ : ∃ v : Nat, b = (v : Int) := ⟨b.toNat, by omega⟩
  unfold swL
  rw [itoa_nonneg, itoa_nonneg, List.append_assoc, run_min u u (Nat.le_refl _) (by omega)]
  show runP _ (58 :: (decDigits v ++ 32 :: r)) = _
  rw [runP]
  show runP ⟨out, ⟨u, 0⟩, true⟩ (decDigits v ++ 32 :: r) = _
  rw [run_bnd v v (Nat.le_refl _) (by omega)]
  rfl
theorem run_list : ∀ (xs : List Sw), xs ≠ [] → (∀ x ∈ xs, 0 ≤ x.m ∧ x.m < 10000 ∧ 0 ≤ x.b ∧ x.b < 10000) → ∀ out, runP ⟨out, ⟨0, 0⟩, false⟩ (textL xs ++ [32]) = some ⟨out ++ xs, ⟨0, 0⟩, false⟩
  | [], h, _, _ => absurd rfl h
  | [x], _, h, out => by
    show runP _ (join [swL x] [32] ++ [32]) = _
    rw [join_one, run_sw (h x (by simp))]
    rfl
  | x :: y :: r, _, h, out => by
    show runP _ (join (swL x :: swL y :: r.map swL) [32] ++ [32]) = _
    rw [join_two, List.append_assoc, List.cons_append, run_sw (h x (by simp))]
    have := run_list (y :: r) (by simp) (fun z hz => h z (List.mem_cons_of_mem _ hz)) (out ++ [x])
    rw [show join (swL y :: r.map swL) [32] = textL (y :: r) from rfl, this]
    simp
theorem plan_small {xs : List Sw} (h : PlanL xs) : ∀ x ∈ xs, 0 ≤ x.m ∧ x.m < 10000 ∧ 0 ≤ x.b ∧ x.b < 10000 := by
  intro x hm
  obtain ⟨i, hi, rfl⟩ := List.getElem_of_mem hm
  have h1 := h.2.2.2 i hi
  have h0 := plan_min h i hi
  have e : xs.getD i ⟨0, 0⟩ = xs[i] := by simp [List.getD, hi]
  unfold SwOk at h1
  simp only [e] at h1 h0
  omega
theorem run_plan {xs : List Sw} (h : PlanL xs) : runP init0 (textL xs ++ [32]) = some ⟨xs, ⟨0, 0⟩, false⟩ := by
  have := run_list xs (plan_ne h) (plan_small h) []
  rw [List.nil_append] at this
  exact this
def Bnd (st : PS) : Prop := (0 ≤ st.x.m ∧ st.x.m ≤ 100000) ∧ 0 ≤ st.x.b ∧ st.x.b ≤ 100000
/-- The next byte. -/
theorem run_next {l : List UInt8} {k : Nat} {st : PS} {c : UInt8} (h : runP init0 (l.take k) = some st) (hc : l[k]? = some c) : runP init0 (l.take (k + 1)) = stepP st c := by
  rw [List.take_add_one, hc, runP_app, h]
  simp only [Option.toList_some, runP]
  cases stepP st c <;> rfl
theorem run_fail {s : List UInt8} {k : Nat} (h : runP init0 ((s ++ [32]).take k) = none) : ∀ xs, PlanL xs → s ≠ textL xs := by
  intro xs hx e
  have h1 := run_plan hx
  rw [← e, ← List.take_append_drop k (s ++ [32]), runP_app, h] at h1
  cases h1
theorem run_all {s : List UInt8} {st : PS} (h : runP init0 (s ++ [32]) = some st) {xs : List Sw} (hx : PlanL xs) (e : s = textL xs) : st.out = xs := by
  rw [e, run_plan hx] at h
  cases h
  rfl
end Go.Proofs.YtmbimnphdhmapaaDoor
