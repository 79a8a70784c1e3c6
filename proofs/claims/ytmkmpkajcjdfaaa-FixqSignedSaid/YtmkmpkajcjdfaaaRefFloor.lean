/- The contract of the document's Floor over any two numbers of int64. -/
import Derived.Test.YtmkmpkajcjdfaaaFloorSame
import Derived.Test.YtmkmpkajcjdfaaaFloorDiff
import Derived.Test.YtmkmpkajcjdfaaaFloorDown
set_option linter.unusedVariables false
namespace Go.Proofs.Ytmkmpkajcjdfaaa
open Go.RowKit
theorem int_of {v : Int} {neg : Bool} {n : Nat} (h : sgn v = nb neg n) (h1 : -9223372036854775808 ≤ v) (h2 : v ≤ 9223372036854775807) (W : World) :
    Calls Try.prog 30 #[.agg (num neg (bitf n))] W fun e w' => e = .returned (.tuple #[.int .i64 v, .bool true]) ∧ Below W.heap.size W w' := by
  have k := int_yes v h1 h2 W
  rw [h] at k
  exact k
theorem signed_of {a : Int} {neg : Bool} (h : decide (a < 0) = neg) (h1 : -9223372036854775808 ≤ a) (h2 : a ≤ 9223372036854775807) (W : World) :
    Calls Try.prog 20 #[.int .i64 a] W fun e w' => e = .returned (.agg (num neg (bitf a.natAbs))) ∧ Below W.heap.size W w' := by
  have k := signed_any a h1 h2 W
  rw [h] at k
  exact k
set_option maxHeartbeats 400000 in
theorem rfloor_zero (a : Int) (w : World) :
    Calls Try.prog 14 #[.int .i64 a, .int .i64 0] w fun e w' => e = .returned (.tuple #[.int .i64 0, .int .i64 0, .int .i64 11]) ∧ Below w.heap.size w w' := by
  go_enter Try.func14, Try.ntmps14
  go_wp2
  go_ret3
  exact ⟨rfl, Below.refl _ _⟩
theorem rfloor_least (w : World) :
    Calls Try.prog 14 #[.int .i64 (-9223372036854775808), .int .i64 (-1)] w fun e w' => e = .returned (.tuple #[.int .i64 0, .int .i64 0, .int .i64 10]) ∧ Below w.heap.size w w' := by
  refine rfloor_over (-9223372036854775808) (-1) 0 0 9223372036854775808 1 (by decide) (by omega) (by omega) (by omega) (by omega) (fun W => ?_) (fun W => ?_) (fun W => ?_) (fun W => ?_) w
  · exact signed_of (a := -9223372036854775808) (by decide) (by omega) (by omega) W
  · exact signed_of (a := -1) (by decide) (by omega) (by omega) W
  · exact int_edge 9223372036854775808 (by omega) (by omega) W
  · exact int_of (v := 0) (neg := false) (n := 0) rfl (by omega) (by omega) W
theorem rfloor_any (a b : Int) (ha1 : -9223372036854775808 ≤ a) (ha2 : a ≤ 9223372036854775807) (hb1 : -9223372036854775808 ≤ b) (hb2 : b ≤ 9223372036854775807) (hb0 : b ≠ 0) (hab : ¬ (a = -9223372036854775808 ∧ b = -1)) (w : World) :
    Calls Try.prog 14 #[.int .i64 a, .int .i64 b] w fun e w' => e = .returned (.tuple #[.int .i64 (fq a b), .int .i64 (fr a b), .int .i64 0]) ∧ Below w.heap.size w w' := by
  have hbb : (b == 0) = false := by simpa using hb0
  obtain ⟨ht1, ht2⟩ := tdiv_in a b ha1 ha2 hb0 hab
  obtain ⟨hq1, hq2, hr⟩ := quo_le a b ha1 ha2 hb0
  have hT := tdiv_abs a b
  have hX : a.natAbs ≤ 18446744073709551615 := by omega
  have hY : b.natAbs ≤ 18446744073709551615 := by omega
  have hY0 : 0 < b.natAbs := by omega
  have hYb : b.natAbs ≤ 9223372036854775808 := by omega
  rcases Int.lt_or_le a 0 with h1 | h1 <;> rcases Int.lt_or_le b 0 with h2 | h2
  · have hs : decide (a < 0) = decide (b < 0) := by rw [decide_eq_true h1, decide_eq_true h2]
    rw [if_pos hs] at hT
    rw [hT] at ht1 ht2
    have e1 : fq a b = ((a.natAbs / b.natAbs : Nat) : Int) := by rw [fq, if_pos hs]
    have e2 : fr a b = -((a.natAbs % b.natAbs : Nat) : Int) := by rw [fr, if_pos hs, if_pos h1]
    rw [e1, e2]
    have s1 : sgn ((a.natAbs / b.natAbs : Nat) : Int) = nb false (a.natAbs / b.natAbs) := by rw [sgn_pos (Int.natCast_nonneg _), Int.natAbs_natCast]
    by_cases hz : a.natAbs % b.natAbs = 0
    · have s2 : sgn (-((a.natAbs % b.natAbs : Nat) : Int)) = nb false (a.natAbs % b.natAbs) := by rw [hz]; rfl
      exact rfloor_tt0 a b _ _ a.natAbs b.natAbs hbb hX hY hY0 hz (signed_of (decide_eq_true h1) ha1 ha2) (signed_of (decide_eq_true h2) hb1 hb2) (int_of s1 ht1 ht2) (int_of s2 (by omega) (by omega)) w
    · have s2 : sgn (-((a.natAbs % b.natAbs : Nat) : Int)) = nb true (a.natAbs % b.natAbs) := by rw [sgn_neg (by omega), Int.natAbs_neg, Int.natAbs_natCast]
      exact rfloor_tt1 a b _ _ a.natAbs b.natAbs hbb hX hY hY0 (by omega) (signed_of (decide_eq_true h1) ha1 ha2) (signed_of (decide_eq_true h2) hb1 hb2) (int_of s1 ht1 ht2) (int_of s2 (by omega) (by omega)) w
  · have hs : ¬ decide (a < 0) = decide (b < 0) := by rw [decide_eq_true h1, decide_eq_false (by omega)]; decide
    by_cases hz : a.natAbs % b.natAbs = 0
    · have e1 : fq a b = -((a.natAbs / b.natAbs : Nat) : Int) := by rw [fq, if_neg hs, if_pos hz]
      have e2 : fr a b = 0 := by rw [fr, if_neg hs, if_pos hz]
      rw [e1, e2]
      have hq0 : 0 < a.natAbs / b.natAbs := by
        rcases Nat.eq_zero_or_pos (a.natAbs / b.natAbs) with h | h
        · have := Nat.div_add_mod a.natAbs b.natAbs
          rw [h, hz] at this; omega
        · exact h
      have s1 : sgn (-((a.natAbs / b.natAbs : Nat) : Int)) = nb true (a.natAbs / b.natAbs) := by
        rw [sgn_neg (by generalize a.natAbs / b.natAbs = Q at *; omega), Int.natAbs_neg, Int.natAbs_natCast]
      have s2 : sgn 0 = nb false (a.natAbs % b.natAbs) := by rw [hz]; rfl
      exact rfloor_tf01 a b _ _ a.natAbs b.natAbs hbb hX hY hY0 hz hq0 (signed_of (decide_eq_true h1) ha1 ha2) (signed_of (decide_eq_false (by omega)) hb1 hb2) (int_of s1 (by generalize a.natAbs / b.natAbs = Q at *; omega) (by generalize a.natAbs / b.natAbs = Q at *; omega)) (int_of s2 (by omega) (by omega)) w
    · have e1 : fq a b = -((a.natAbs / b.natAbs : Nat) : Int) - 1 := by rw [fq, if_neg hs, if_neg hz]
      have e2 : fr a b = -((a.natAbs % b.natAbs : Nat) : Int) + b := by rw [fr, if_neg hs, if_neg hz, if_neg (by omega)]
      rw [e1, e2]
      have h3 := hq2 (mod_one hz hb0)
      clear hq2
      have s1 : sgn (-((a.natAbs / b.natAbs : Nat) : Int) - 1) = nb true (a.natAbs / b.natAbs + 1) := by
        generalize a.natAbs / b.natAbs = Q at *
        rw [sgn_neg (by omega), show (-(Q : Int) - 1).natAbs = Q + 1 by omega]
      have s2 : sgn (-((a.natAbs % b.natAbs : Nat) : Int) + b) = nb false (b.natAbs - a.natAbs % b.natAbs) := by
        generalize a.natAbs % b.natAbs = R at *
        rw [sgn_pos (by omega), show (-(R : Int) + b).natAbs = b.natAbs - R by omega]
      exact rfloor_tf1 a b _ _ a.natAbs b.natAbs hbb hX hY hY0 (by omega) (signed_of (decide_eq_true h1) ha1 ha2) (signed_of (decide_eq_false (by omega)) hb1 hb2) (int_of s1 (by generalize a.natAbs / b.natAbs = Q at *; omega) (by generalize a.natAbs / b.natAbs = Q at *; omega)) (int_of s2 (by generalize a.natAbs % b.natAbs = R at *; omega) (by generalize a.natAbs % b.natAbs = R at *; omega)) w
  · have hs : ¬ decide (a < 0) = decide (b < 0) := by rw [decide_eq_false (by omega), decide_eq_true h2]; decide
    by_cases hz : a.natAbs % b.natAbs = 0
    · have e1 : fq a b = -((a.natAbs / b.natAbs : Nat) : Int) := by rw [fq, if_neg hs, if_pos hz]
      have e2 : fr a b = 0 := by rw [fr, if_neg hs, if_pos hz]
      rw [e1, e2]
      have s2 : sgn 0 = nb false (a.natAbs % b.natAbs) := by rw [hz]; rfl
      rcases Nat.eq_zero_or_pos (a.natAbs / b.natAbs) with hq0 | hq0
      · have s1 : sgn (-((a.natAbs / b.natAbs : Nat) : Int)) = nb false (a.natAbs / b.natAbs) := by rw [hq0]; rfl
        exact rfloor_ft00 a b _ _ a.natAbs b.natAbs hbb hX hY hY0 hz hq0 (signed_of (decide_eq_false (by omega)) ha1 ha2) (signed_of (decide_eq_true h2) hb1 hb2) (int_of s1 (by rw [hq0]; decide) (by rw [hq0]; decide)) (int_of s2 (by omega) (by omega)) w
      · have s1 : sgn (-((a.natAbs / b.natAbs : Nat) : Int)) = nb true (a.natAbs / b.natAbs) := by
          rw [sgn_neg (by generalize a.natAbs / b.natAbs = Q at *; omega), Int.natAbs_neg, Int.natAbs_natCast]
        exact rfloor_ft01 a b _ _ a.natAbs b.natAbs hbb hX hY hY0 hz hq0 (signed_of (decide_eq_false (by omega)) ha1 ha2) (signed_of (decide_eq_true h2) hb1 hb2) (int_of s1 (by generalize a.natAbs / b.natAbs = Q at *; omega) (by generalize a.natAbs / b.natAbs = Q at *; omega)) (int_of s2 (by omega) (by omega)) w
    · have e1 : fq a b = -((a.natAbs / b.natAbs : Nat) : Int) - 1 := by rw [fq, if_neg hs, if_neg hz]
      have e2 : fr a b = ((a.natAbs % b.natAbs : Nat) : Int) + b := by rw [fr, if_neg hs, if_neg hz, if_pos h2]
      rw [e1, e2]
      have h3 := hq2 (mod_one hz hb0)
      clear hq2
      have s1 : sgn (-((a.natAbs / b.natAbs : Nat) : Int) - 1) = nb true (a.natAbs / b.natAbs + 1) := by
        generalize a.natAbs / b.natAbs = Q at *
        rw [sgn_neg (by omega), show (-(Q : Int) - 1).natAbs = Q + 1 by omega]
      have s2 : sgn (((a.natAbs % b.natAbs : Nat) : Int) + b) = nb true (b.natAbs - a.natAbs % b.natAbs) := by
        generalize a.natAbs % b.natAbs = R at *
        rw [sgn_neg (by omega), show ((R : Int) + b).natAbs = b.natAbs - R by omega]
      exact rfloor_ft1 a b _ _ a.natAbs b.natAbs hbb hX hY hY0 (by omega) (signed_of (decide_eq_false (by omega)) ha1 ha2) (signed_of (decide_eq_true h2) hb1 hb2) (int_of s1 (by generalize a.natAbs / b.natAbs = Q at *; omega) (by generalize a.natAbs / b.natAbs = Q at *; omega)) (int_of s2 (by generalize a.natAbs % b.natAbs = R at *; omega) (by generalize a.natAbs % b.natAbs = R at *; omega)) w
  · have hs : decide (a < 0) = decide (b < 0) := by rw [decide_eq_false (by omega), decide_eq_false (by omega)]
    rw [if_pos hs] at hT
    rw [hT] at ht1 ht2
    have e1 : fq a b = ((a.natAbs / b.natAbs : Nat) : Int) := by rw [fq, if_pos hs]
    have e2 : fr a b = ((a.natAbs % b.natAbs : Nat) : Int) := by rw [fr, if_pos hs, if_neg (by omega)]
    rw [e1, e2]
    have s1 : sgn ((a.natAbs / b.natAbs : Nat) : Int) = nb false (a.natAbs / b.natAbs) := by rw [sgn_pos (Int.natCast_nonneg _), Int.natAbs_natCast]
    have s2 : sgn ((a.natAbs % b.natAbs : Nat) : Int) = nb false (a.natAbs % b.natAbs) := by rw [sgn_pos (Int.natCast_nonneg _), Int.natAbs_natCast]
    by_cases hz : a.natAbs % b.natAbs = 0
    · exact rfloor_ff0 a b _ _ a.natAbs b.natAbs hbb hX hY hY0 hz (signed_of (decide_eq_false (by omega)) ha1 ha2) (signed_of (decide_eq_false (by omega)) hb1 hb2) (int_of s1 ht1 ht2) (int_of s2 (by omega) (by omega)) w
    · exact rfloor_ff1 a b _ _ a.natAbs b.natAbs hbb hX hY hY0 (by omega) (signed_of (decide_eq_false (by omega)) ha1 ha2) (signed_of (decide_eq_false (by omega)) hb1 hb2) (int_of s1 ht1 ht2) (int_of s2 (by omega) (by omega)) w
end Go.Proofs.Ytmkmpkajcjdfaaa
