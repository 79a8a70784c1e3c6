/- The contract of fixq.Mul over any two numbers of int64: the product, or that it does not fit. -/
import Derived.Test.YtmkmpkajcjdfaaaLeaf
import Derived.Lib.Hide
namespace Go.Proofs.Ytmkmpkajcjdfaaa
open Go.RowKit
theorem mulWords (a b : Int) (ha1 : -9223372036854775808 ≤ a) (ha2 : a ≤ 9223372036854775807) (hb1 : -9223372036854775808 ≤ b) (hb2 : b ≤ 9223372036854775807) :
    ∃ H L : Int, (∀ w : World, Calls Try.prog 22 #[.int .u64 (a.natAbs : Int), .int .u64 (b.natAbs : Int)] w fun e w' => e = .returned (.tuple #[.int .u64 H, .int .u64 L]) ∧ w = w') ∧ 0 ≤ H ∧ 0 ≤ L ∧ L ≤ 18446744073709551615 ∧ ((a.natAbs * b.natAbs : Nat) : Int) = H * 18446744073709551616 + L :=
  ⟨_, _, fun w => mul64_any a.natAbs b.natAbs (by omega) (by omega) w, by omega, by omega, by omega, by omega⟩
theorem mulSame {a b : Int} (h : (a < 0 ∧ b < 0) ∨ (0 ≤ a ∧ 0 ≤ b)) : a * b = ((a.natAbs * b.natAbs : Nat) : Int) := by
  rw [Int.natCast_mul]
  rcases h with ⟨h1, h2⟩ | ⟨h1, h2⟩
  · rw [show ((a.natAbs : Nat) : Int) = -a by omega, show ((b.natAbs : Nat) : Int) = -b by omega, Int.neg_mul_neg]
  · rw [show ((a.natAbs : Nat) : Int) = a by omega, show ((b.natAbs : Nat) : Int) = b by omega]
theorem mulOther {a b : Int} (h : (a < 0 ∧ 0 ≤ b) ∨ (0 ≤ a ∧ b < 0)) : a * b = -((a.natAbs * b.natAbs : Nat) : Int) := by
  rw [Int.natCast_mul]
  rcases h with ⟨h1, h2⟩ | ⟨h1, h2⟩
  · rw [show ((a.natAbs : Nat) : Int) = -a by omega, show ((b.natAbs : Nat) : Int) = b by omega, Int.neg_mul, Int.neg_neg]
  · rw [show ((a.natAbs : Nat) : Int) = a by omega, show ((b.natAbs : Nat) : Int) = -b by omega, Int.mul_neg, Int.neg_neg]
theorem negBack (L : Int) (h0 : 0 ≤ L) (h1 : L ≤ 9223372036854775808) : wrap64 (IntKind.u64.wrap (-L)) = -L := by
  rw [IntKind.wrap_u64]; unfold wrap64; omega
set_option maxHeartbeats 1000000 in
/-- One walk for each pair of signs p, q, with the two words H, L of the bare product. -/
theorem mul_core (a b H L : Int) (p q : Bool) (ha1 : -9223372036854775808 ≤ a) (ha2 : a ≤ 9223372036854775807) (hb1 : -9223372036854775808 ≤ b) (hb2 : b ≤ 9223372036854775807)
    (hp : decide (a < 0) = p) (hq : decide (b < 0) = q) (hH : 0 ≤ H) (hL : 0 ≤ L) (hL2 : L ≤ 18446744073709551615)
    (HC : Hid (∀ w : World, Calls Try.prog 22 #[.int .u64 (a.natAbs : Int), .int .u64 (b.natAbs : Int)] w fun e w' => e = .returned (.tuple #[.int .u64 H, .int .u64 L]) ∧ w = w')) (w : World) :
    Calls Try.prog 11 #[.int .i64 a, .int .i64 b] w fun e w' => e = .returned (.tuple #[.int .i64 (tv (if p = q then H * 18446744073709551616 + L else -(H * 18446744073709551616 + L))), .int .i64 (te (if p = q then H * 18446744073709551616 + L else -(H * 18446744073709551616 + L)))]) ∧ w = w' := by
  by_cases hz : H = 0
  · subst hz
    rw [Int.zero_mul, Int.zero_add]
    cases p <;> cases q
    · by_cases hm : L ≤ 9223372036854775807
      · rw [if_pos rfl, tv_in (by omega), te_in (by omega)]
        go_enter Try.func11, Try.ntmps11
        go_wp2_with (first | (go_at_call 23; refine (magnitude_any _ (by omega) (by omega) _).mono ?_; rintro e w' ⟨rfl, rfl⟩) | (go_at_call 22; refine (HC.out _).mono ?_; rintro e w' ⟨rfl, rfl⟩))
        go_ret2
        exact ⟨rfl, rfl⟩
      · rw [if_pos rfl, tv_out (by omega), te_out (by omega)]
        go_enter Try.func11, Try.ntmps11
        go_wp2_with (first | (go_at_call 23; refine (magnitude_any _ (by omega) (by omega) _).mono ?_; rintro e w' ⟨rfl, rfl⟩) | (go_at_call 22; refine (HC.out _).mono ?_; rintro e w' ⟨rfl, rfl⟩))
        go_ret2
        exact ⟨rfl, rfl⟩
    · by_cases hm : L ≤ 9223372036854775808
      · have eb := negBack L hL hm
        rw [if_neg (by decide), tv_in (by omega), te_in (by omega), ← eb]
        clear eb
        go_enter Try.func11, Try.ntmps11
        go_wp2_with (first | (go_at_call 23; refine (magnitude_any _ (by omega) (by omega) _).mono ?_; rintro e w' ⟨rfl, rfl⟩) | (go_at_call 22; refine (HC.out _).mono ?_; rintro e w' ⟨rfl, rfl⟩))
        go_ret2
        exact ⟨rfl, rfl⟩
      · rw [if_neg (by decide), tv_out (by omega), te_out (by omega)]
        go_enter Try.func11, Try.ntmps11
        go_wp2_with (first | (go_at_call 23; refine (magnitude_any _ (by omega) (by omega) _).mono ?_; rintro e w' ⟨rfl, rfl⟩) | (go_at_call 22; refine (HC.out _).mono ?_; rintro e w' ⟨rfl, rfl⟩))
        go_ret2
        exact ⟨rfl, rfl⟩
    · by_cases hm : L ≤ 9223372036854775808
      · have eb := negBack L hL hm
        rw [if_neg (by decide), tv_in (by omega), te_in (by omega), ← eb]
        clear eb
        go_enter Try.func11, Try.ntmps11
        go_wp2_with (first | (go_at_call 23; refine (magnitude_any _ (by omega) (by omega) _).mono ?_; rintro e w' ⟨rfl, rfl⟩) | (go_at_call 22; refine (HC.out _).mono ?_; rintro e w' ⟨rfl, rfl⟩))
        go_ret2
        exact ⟨rfl, rfl⟩
      · rw [if_neg (by decide), tv_out (by omega), te_out (by omega)]
        go_enter Try.func11, Try.ntmps11
        go_wp2_with (first | (go_at_call 23; refine (magnitude_any _ (by omega) (by omega) _).mono ?_; rintro e w' ⟨rfl, rfl⟩) | (go_at_call 22; refine (HC.out _).mono ?_; rintro e w' ⟨rfl, rfl⟩))
        go_ret2
        exact ⟨rfl, rfl⟩
    · by_cases hm : L ≤ 9223372036854775807
      · rw [if_pos rfl, tv_in (by omega), te_in (by omega)]
        go_enter Try.func11, Try.ntmps11
        go_wp2_with (first | (go_at_call 23; refine (magnitude_any _ (by omega) (by omega) _).mono ?_; rintro e w' ⟨rfl, rfl⟩) | (go_at_call 22; refine (HC.out _).mono ?_; rintro e w' ⟨rfl, rfl⟩))
        go_ret2
        exact ⟨rfl, rfl⟩
      · rw [if_pos rfl, tv_out (by omega), te_out (by omega)]
        go_enter Try.func11, Try.ntmps11
        go_wp2_with (first | (go_at_call 23; refine (magnitude_any _ (by omega) (by omega) _).mono ?_; rintro e w' ⟨rfl, rfl⟩) | (go_at_call 22; refine (HC.out _).mono ?_; rintro e w' ⟨rfl, rfl⟩))
        go_ret2
        exact ⟨rfl, rfl⟩
  · have hz1 : 1 ≤ H := by omega
    have hz2 : (H != 0) = true := by simpa using hz
    have ho : ¬ (-9223372036854775808 ≤ (if p = q then H * 18446744073709551616 + L else -(H * 18446744073709551616 + L)) ∧ (if p = q then H * 18446744073709551616 + L else -(H * 18446744073709551616 + L)) ≤ 9223372036854775807) := by
      split <;> omega
    rw [tv_out ho, te_out ho]
    clear ho hz
    cases p <;> cases q
    all_goals
        go_enter Try.func11, Try.ntmps11
        go_wp2_with (first | (go_at_call 23; refine (magnitude_any _ (by omega) (by omega) _).mono ?_; rintro e w' ⟨rfl, rfl⟩) | (go_at_call 22; refine (HC.out _).mono ?_; rintro e w' ⟨rfl, rfl⟩))
        go_ret2
        exact ⟨rfl, rfl⟩
set_option maxHeartbeats 1000000 in
theorem mul_any (a b : Int) (ha1 : -9223372036854775808 ≤ a) (ha2 : a ≤ 9223372036854775807) (hb1 : -9223372036854775808 ≤ b) (hb2 : b ≤ 9223372036854775807) (w : World) :
    Calls Try.prog 11 #[.int .i64 a, .int .i64 b] w fun e w' => e = .returned (.tuple #[.int .i64 (tv (a * b)), .int .i64 (te (a * b))]) ∧ w = w' := by
  obtain ⟨H, L, hc, hH, hL, hL2, hP⟩ := mulWords a b ha1 ha2 hb1 hb2
  have HC := Lib.hid hc
  clear hc
  have hk := mul_core a b H L (decide (a < 0)) (decide (b < 0)) ha1 ha2 hb1 hb2 rfl rfl hH hL hL2 HC w
  have e : a * b = if decide (a < 0) = decide (b < 0) then H * 18446744073709551616 + L else -(H * 18446744073709551616 + L) := by
    rw [← hP]
    by_cases h1 : a < 0 <;> by_cases h2 : b < 0
    · rw [if_pos (by simp [h1, h2])]; exact mulSame (.inl ⟨h1, h2⟩)
    · rw [if_neg (by simp [h1, h2])]; exact mulOther (.inl ⟨h1, by omega⟩)
    · rw [if_neg (by simp [h1, h2])]; exact mulOther (.inr ⟨by omega, h2⟩)
    · rw [if_pos (by simp [h1, h2])]; exact mulSame (.inr ⟨by omega, by omega⟩)
  rw [e]
  exact hk
end Go.Proofs.Ytmkmpkajcjdfaaa
