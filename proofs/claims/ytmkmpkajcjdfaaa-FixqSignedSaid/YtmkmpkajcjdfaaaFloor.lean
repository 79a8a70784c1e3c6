/- The contract of fixq.Floor over any two numbers of int64: the quotient rounded down and its rest, or the error. -/
import Derived.Test.YtmkmpkajcjdfaaaLeaf
import Derived.Lib.Hide
import Derived.RegionTactic
import Derived.ChangeAlike
import Derived.Deep.QuietTactic
import Derived.BigQuiet
import Derived.OwnWalk
set_option linter.unusedVariables false
namespace Go.Proofs.Ytmkmpkajcjdfaaa
open Go.RowKit
set_option maxHeartbeats 400000 in
theorem floor_zero (a : Int) (ha1 : -9223372036854775808 ≤ a) (ha2 : a ≤ 9223372036854775807) (w : World) :
    Calls Try.prog 13 #[.int .i64 a, .int .i64 0] w fun e w' => e = .returned (.tuple #[.int .i64 0, .int .i64 0, .int .i64 11]) ∧ w = w' := by
  go_enter Try.func13, Try.ntmps13
  go_wp2
  go_ret3
  exact ⟨rfl, rfl⟩
set_option maxHeartbeats 400000 in
theorem floor_over (w : World) :
    Calls Try.prog 13 #[.int .i64 (-9223372036854775808), .int .i64 (-1)] w fun e w' => e = .returned (.tuple #[.int .i64 0, .int .i64 0, .int .i64 10]) ∧ w = w' := by
  go_enter Try.func13, Try.ntmps13
  go_wp2
  go_ret3
  exact ⟨rfl, rfl⟩
set_option maxHeartbeats 400000 in
theorem floor_even (a b : Int) (ha1 : -9223372036854775808 ≤ a) (ha2 : a ≤ 9223372036854775807) (hb1 : -9223372036854775808 ≤ b) (hb2 : b ≤ 9223372036854775807) (hb : (b == 0) = false) (hb0 : b ≠ 0)
    (hab : (a == -9223372036854775808) = false ∨ (b == -1) = false) (ht1 : -9223372036854775808 ≤ a.tdiv b) (ht2 : a.tdiv b ≤ 9223372036854775807) (hm : (a.tmod b != 0) = false) (w : World) :
    Calls Try.prog 13 #[.int .i64 a, .int .i64 b] w fun e w' => e = .returned (.tuple #[.int .i64 (a.tdiv b), .int .i64 (a.tmod b), .int .i64 0]) ∧ ∃ n, w' = w.drewN n := by
  by_cases ha : (a == -9223372036854775808) = true
  · have hb' : (b == -1) = false := hab.resolve_left (by rw [ha]; decide)
    clear hab
    go_enter Try.func13, Try.ntmps13
    go_wp2
    go_quiet (fail)
    go_wp2
    go_ret3
    exact ⟨rfl, _, rfl⟩
  · have ha' : (a == -9223372036854775808) = false := by simpa using ha
    clear hab ha
    go_enter Try.func13, Try.ntmps13
    go_wp2
    go_quiet (fail)
    go_wp2
    go_ret3
    exact ⟨rfl, _, rfl⟩
set_option maxHeartbeats 400000 in
theorem floor_same (a b : Int) (p q : Bool) (ha1 : -9223372036854775808 ≤ a) (ha2 : a ≤ 9223372036854775807) (hb1 : -9223372036854775808 ≤ b) (hb2 : b ≤ 9223372036854775807) (hb : (b == 0) = false) (hb0 : b ≠ 0)
    (hab : (a == -9223372036854775808) = false ∨ (b == -1) = false) (hm : (a.tmod b != 0) = true) (hm0 : a.tmod b ≠ 0) (hp : decide (a.tmod b < 0) = p) (hq : decide (b < 0) = q) (ht1 : -9223372036854775808 ≤ a.tdiv b) (ht2 : a.tdiv b ≤ 9223372036854775807) (hpq : p = q) (w : World) :
    Calls Try.prog 13 #[.int .i64 a, .int .i64 b] w fun e w' => e = .returned (.tuple #[.int .i64 (a.tdiv b), .int .i64 (a.tmod b), .int .i64 0]) ∧ ∃ n, w' = w.drewN n := by
  by_cases ha : (a == -9223372036854775808) = true
  · have hb' : (b == -1) = false := hab.resolve_left (by rw [ha]; decide)
    clear hab
    subst hpq
    cases p
    all_goals
      go_enter Try.func13, Try.ntmps13
      go_wp2
      go_quiet (fail)
      go_wp2
      go_ret3
      exact ⟨rfl, _, rfl⟩
  · have ha' : (a == -9223372036854775808) = false := by simpa using ha
    clear hab ha
    subst hpq
    cases p
    all_goals
      go_enter Try.func13, Try.ntmps13
      go_wp2
      go_quiet (fail)
      go_wp2
      go_ret3
      exact ⟨rfl, _, rfl⟩
set_option maxHeartbeats 400000 in
theorem floor_diff (a b : Int) (p q : Bool) (ha1 : -9223372036854775808 ≤ a) (ha2 : a ≤ 9223372036854775807) (hb1 : -9223372036854775808 ≤ b) (hb2 : b ≤ 9223372036854775807) (hb : (b == 0) = false) (hb0 : b ≠ 0)
    (hab : (a == -9223372036854775808) = false ∨ (b == -1) = false) (hm : (a.tmod b != 0) = true) (hm0 : a.tmod b ≠ 0) (hp : decide (a.tmod b < 0) = p) (hq : decide (b < 0) = q) (ht1 : -9223372036854775808 ≤ a.tdiv b) (ht2 : a.tdiv b ≤ 9223372036854775807) (hpq : p ≠ q) (hu1 : -9223372036854775808 ≤ a.tdiv b - 1) (hr1 : -9223372036854775808 ≤ a.tmod b + b) (hr2 : a.tmod b + b ≤ 9223372036854775807) (w : World) :
    Calls Try.prog 13 #[.int .i64 a, .int .i64 b] w fun e w' => e = .returned (.tuple #[.int .i64 (a.tdiv b - 1), .int .i64 (a.tmod b + b), .int .i64 0]) ∧ ∃ n, w' = w.drewN n := by
  by_cases ha : (a == -9223372036854775808) = true
  · have hb' : (b == -1) = false := hab.resolve_left (by rw [ha]; decide)
    clear hab
    cases p <;> cases q <;> first | exact absurd rfl hpq | clear hpq
    all_goals
      go_enter Try.func13, Try.ntmps13
      go_wp2
      go_quiet (fail)
      go_wp2
      go_ret3
      exact ⟨rfl, _, rfl⟩
  · have ha' : (a == -9223372036854775808) = false := by simpa using ha
    clear hab ha
    cases p <;> cases q <;> first | exact absurd rfl hpq | clear hpq
    all_goals
      go_enter Try.func13, Try.ntmps13
      go_wp2
      go_quiet (fail)
      go_wp2
      go_ret3
      exact ⟨rfl, _, rfl⟩
theorem floor_any (a b : Int) (ha1 : -9223372036854775808 ≤ a) (ha2 : a ≤ 9223372036854775807) (hb1 : -9223372036854775808 ≤ b) (hb2 : b ≤ 9223372036854775807) (hb0 : b ≠ 0) (hab : ¬ (a = -9223372036854775808 ∧ b = -1)) (w : World) :
    Calls Try.prog 13 #[.int .i64 a, .int .i64 b] w fun e w' => e = .returned (.tuple #[.int .i64 (fq a b), .int .i64 (fr a b), .int .i64 0]) ∧ ∃ n, w' = w.drewN n := by
  have hab' : (a == -9223372036854775808) = false ∨ (b == -1) = false := by
    by_cases h : a = -9223372036854775808
    · right; simp; omega
    · left; simpa using h
  have hbb : (b == 0) = false := by simpa using hb0
  obtain ⟨ht1, ht2⟩ := tdiv_in a b ha1 ha2 hb0 hab
  obtain ⟨hq1, hq2, hr⟩ := quo_le a b ha1 ha2 hb0
  have hT := tdiv_abs a b
  have hM := tmod_abs a b
  by_cases hz : a.natAbs % b.natAbs = 0
  · have hm : a.tmod b = 0 := by rw [hM, hz]; simp
    have e1 : fq a b = a.tdiv b := by rw [fq, if_pos hz, hT]
    have e2 : fr a b = a.tmod b := by
      rw [hm, fr, if_pos hz, hz]; simp
    rw [e1, e2]
    exact floor_even a b ha1 ha2 hb1 hb2 hbb hb0 hab' ht1 ht2 (by simpa using hm) w
  · have hm : a.tmod b ≠ 0 := by rw [hM]; split <;> omega
    have h2 := hq2 (mod_one hz hb0)
    clear hq2
    by_cases hs : decide (a < 0) = decide (b < 0)
    · have e1 : fq a b = a.tdiv b := by rw [fq, if_pos hs, hT, if_pos hs]
      have e2 : fr a b = a.tmod b := by rw [fr, if_pos hs, hM]
      rw [e1, e2]
      refine floor_same a b (decide (a.tmod b < 0)) (decide (b < 0)) ha1 ha2 hb1 hb2 hbb hb0 hab' (by simpa using hm) hm rfl rfl ht1 ht2 ?_ w
      rw [← hs, hM]
      by_cases h0 : a < 0
      · rw [if_pos h0, decide_eq_true h0, decide_eq_true (by omega)]
      · rw [if_neg h0, decide_eq_false h0, decide_eq_false (by omega)]
    · rw [if_neg hs] at hT
      have e1 : fq a b = a.tdiv b - 1 := by rw [fq, if_neg hs, if_neg hz, hT]
      have e2 : fr a b = a.tmod b + b := by
        rw [fr, if_neg hs, if_neg hz, hM]
        by_cases h0 : a < 0
        · have h1 : ¬ b < 0 := fun h => hs (by rw [decide_eq_true h0, decide_eq_true h])
          rw [if_neg h1, if_pos h0]
        · have h1 : b < 0 := by
            rcases Int.lt_or_le b 0 with h | h
            · exact h
            · exact absurd (by rw [decide_eq_false h0, decide_eq_false (by omega)]) hs
          rw [if_pos h1, if_neg h0]
      rw [e1, e2]
      have hne : decide (a.tmod b < 0) ≠ decide (b < 0) := by
        intro h
        apply hs
        rw [← h, hM]
        by_cases h0 : a < 0
        · rw [if_pos h0, decide_eq_true h0, decide_eq_true (by omega)]
        · rw [if_neg h0, decide_eq_false h0, decide_eq_false (by omega)]
      have hb3 : -9223372036854775808 ≤ a.tmod b + b ∧ a.tmod b + b ≤ 9223372036854775807 := by
        rw [hM]
        by_cases h0 : a < 0
        · rw [if_pos h0]
          have h1 : ¬ b < 0 := fun h => hs (by rw [decide_eq_true h0, decide_eq_true h])
          omega
        · rw [if_neg h0]
          have h1 : b < 0 := by
            rcases Int.lt_or_le b 0 with h | h
            · exact h
            · exact absurd (by rw [decide_eq_false h0, decide_eq_false (by omega)]) hs
          omega
      refine floor_diff a b (decide (a.tmod b < 0)) (decide (b < 0)) ha1 ha2 hb1 hb2 hbb hb0 hab' (by simpa using hm) hm rfl rfl ht1 ht2 hne ?_ hb3.1 hb3.2 w
      rw [hT]
      generalize a.natAbs / b.natAbs = Q at *
      omega
end Go.Proofs.Ytmkmpkajcjdfaaa
