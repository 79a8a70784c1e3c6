/- Contracts of the small functions of package fixq over any numbers: Add, Sub. -/
import Derived.Test.YtmkmpkajcjdfaaaProg
import Derived.WalkKit
import Derived.WalkLawsBesides
import Derived.Lib.Mul64
import Derived.Laws.Bits64b
import Derived.Test.YtmkmpkajcjdfaaaMath
namespace Go.Proofs.Ytmkmpkajcjdfaaa
open Go.RowKit
set_option maxHeartbeats 400000 in
theorem add_any (a b : Int) (ha1 : -9223372036854775808 ≤ a) (ha2 : a ≤ 9223372036854775807) (hb1 : -9223372036854775808 ≤ b) (hb2 : b ≤ 9223372036854775807) (w : World) :
    Calls Try.prog 7 #[.int .i64 a, .int .i64 b] w fun e w' => e = .returned (.tuple #[.int .i64 (tv (a + b)), .int .i64 (te (a + b))]) ∧ w = w' := by
  by_cases hi : -9223372036854775808 ≤ a + b ∧ a + b ≤ 9223372036854775807
  · rw [tv_in hi, te_in hi]
    obtain ⟨hi1, hi2⟩ := hi
    by_cases ha : a < 0 <;> by_cases hb : b < 0
    all_goals
      go_enter Try.func7, Try.ntmps7
      go_wp2
      all_goals (first | (go_ret2; exact ⟨rfl, rfl⟩) | (exfalso; simp at *; omega))
  · rw [tv_out hi, te_out hi]
    have hs : (a < 0 ∧ b < 0 ∧ 0 ≤ wrap64 (a + b)) ∨ (0 ≤ a ∧ 0 ≤ b ∧ wrap64 (a + b) < 0) := by
      simp only [wrap64]; omega
    clear hi
    rcases hs with ⟨ha, hb, hc⟩ | ⟨ha, hb, hc⟩
    all_goals
      go_enter Try.func7, Try.ntmps7
      go_wp2
      all_goals (first | (go_ret2; exact ⟨rfl, rfl⟩) | (exfalso; simp at *; omega))
set_option maxHeartbeats 400000 in
theorem sub_any (a b : Int) (ha1 : -9223372036854775808 ≤ a) (ha2 : a ≤ 9223372036854775807) (hb1 : -9223372036854775808 ≤ b) (hb2 : b ≤ 9223372036854775807) (w : World) :
    Calls Try.prog 9 #[.int .i64 a, .int .i64 b] w fun e w' => e = .returned (.tuple #[.int .i64 (tv (a - b)), .int .i64 (te (a - b))]) ∧ w = w' := by
  by_cases hi : -9223372036854775808 ≤ a - b ∧ a - b ≤ 9223372036854775807
  · rw [tv_in hi, te_in hi]
    obtain ⟨hi1, hi2⟩ := hi
    by_cases ha : a < 0 <;> by_cases hb : b < 0
    all_goals
      go_enter Try.func9, Try.ntmps9
      go_wp2
      all_goals (first | (go_ret2; exact ⟨rfl, rfl⟩) | (exfalso; simp at *; omega))
  · rw [tv_out hi, te_out hi]
    have hs : (a < 0 ∧ 0 ≤ b ∧ 0 ≤ wrap64 (a - b)) ∨ (0 ≤ a ∧ b < 0 ∧ wrap64 (a - b) < 0) := by
      simp only [wrap64]; omega
    clear hi
    rcases hs with ⟨ha, hb, hc⟩ | ⟨ha, hb, hc⟩
    all_goals
      go_enter Try.func9, Try.ntmps9
      go_wp2
      all_goals (first | (go_ret2; exact ⟨rfl, rfl⟩) | (exfalso; simp at *; omega))
/-- How far a number is from nought, as magnitude tells it. -/
theorem magnitude_any (a : Int) (ha1 : -9223372036854775808 ≤ a) (ha2 : a ≤ 9223372036854775807) (w : World) :
    Calls Try.prog 23 #[.int .i64 a] w fun e w' => e = .returned (.int .u64 (a.natAbs : Int)) ∧ w = w' := by
  by_cases ha : a < 0
  all_goals
    go_enter Try.func23, Try.ntmps23
    go_wp2
    go_ret
    refine ⟨congrArg Ending.returned (congrArg (Value.int IntKind.u64) ?_), rfl⟩
    all_goals (first | omega | (simp only [IntKind.wrap_u64]; omega))
theorem signWord_any (a : Int) (ha1 : -9223372036854775808 ≤ a) (ha2 : a ≤ 9223372036854775807) (w : World) :
    Calls Try.prog 33 #[.int .i64 a] w fun e w' => e = .returned (.int .u64 (sw a)) ∧ w = w' := by
  by_cases ha : a < 0
  all_goals
    go_enter Try.func33, Try.ntmps33
    go_wp2
    go_ret
    refine ⟨congrArg Ending.returned (congrArg (Value.int IntKind.u64) ?_), rfl⟩
    first | (rw [sw_neg ha]; simp only [IntKind.wrap_u64]; omega) | (rw [sw_pos (by omega)]; omega)
theorem maskN (a : Nat) (ha : a < 18446744073709551616) : bits .and .u64 (a : Int) 4294967295 = ((a % 4294967296 : Nat) : Int) := by
  have h := bits_and_u64_nat a 4294967295 ha (by omega)
  have e : a &&& 4294967295 = a % 4294967296 := Nat.and_two_pow_sub_one_eq_mod a 32
  rw [e] at h
  exact h
theorem divN (a : Nat) : (a : Int) / 4294967296 = ((a / 4294967296 : Nat) : Int) := by omega
theorem mulN (a b : Nat) : (a : Int) * (b : Int) = ((a * b : Nat) : Int) := (Int.natCast_mul a b).symm
theorem addN (a b : Nat) : (a : Int) + (b : Int) = ((a + b : Nat) : Int) := (Int.natCast_add a b).symm
theorem wrapN (a : Nat) (ha : a < 18446744073709551616) : IntKind.u64.wrap (a : Int) = (a : Int) := by rw [IntKind.wrap_u64]; omega
theorem wrapM (a : Nat) : IntKind.u64.wrap (a : Int) = ((a % 18446744073709551616 : Nat) : Int) := by rw [IntKind.wrap_u64]; omega
set_option maxHeartbeats 1000000 in
theorem mul64_any (x y : Nat) (hx : x < 18446744073709551616) (hy : y < 18446744073709551616) (w : World) :
    Calls Try.prog 22 #[.int .u64 x, .int .u64 y] w fun e w' => e = .returned (.tuple #[.int .u64 ((x * y / 18446744073709551616 : Nat) : Int), .int .u64 ((x * y % 18446744073709551616 : Nat) : Int)]) ∧ w = w' := by
  obtain ⟨bd, bt, bw, hhi⟩ := Lib.mul64_hi x y hx hy
  have ba := Lib.half_mul_le (a := x / 4294967296) (b := y / 4294967296) (by omega) (by omega)
  have bb := Lib.half_mul_le (a := x / 4294967296) (b := y % 4294967296) (by omega) (by omega)
  have bc := Lib.half_mul_le (a := x % 4294967296) (b := y / 4294967296) (by omega) (by omega)
  have ba' : x / 4294967296 * (y / 4294967296) < 18446744073709551616 := by omega
  have bb' : x / 4294967296 * (y % 4294967296) < 18446744073709551616 := by omega
  have bc' : x % 4294967296 * (y / 4294967296) < 18446744073709551616 := by omega
  have bh1 : x / 4294967296 * (y / 4294967296) + (x / 4294967296 * (y % 4294967296) + x % 4294967296 * (y % 4294967296) / 4294967296) / 4294967296 < 18446744073709551616 := by omega
  have bh : x / 4294967296 * (y / 4294967296) + (x / 4294967296 * (y % 4294967296) + x % 4294967296 * (y % 4294967296) / 4294967296) / 4294967296 + ((x / 4294967296 * (y % 4294967296) + x % 4294967296 * (y % 4294967296) / 4294967296) % 4294967296 + x % 4294967296 * (y / 4294967296)) / 4294967296 < 18446744073709551616 := by omega
  go_enter Try.func22, Try.ntmps22
  go_wp2
  simp only [maskN x hx, maskN y hy, divN, mulN, addN, wrapN _ bd, wrapN _ bb', wrapN _ bt, maskN _ bt, wrapN _ bc', wrapN _ bw, wrapN _ ba', wrapN _ bh1, wrapN _ bh, wrapM (x * y)]
  rw [hhi]
  go_ret2
  exact ⟨rfl, rfl⟩
end Go.Proofs.Ytmkmpkajcjdfaaa
