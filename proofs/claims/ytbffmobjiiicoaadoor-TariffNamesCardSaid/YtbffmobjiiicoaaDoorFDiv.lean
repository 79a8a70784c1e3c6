/- The contract of math/bits.Div64 by 1000000, and of fixq.Carry by it: the quotient of n times num plus rest by 1000000, and its remainder. -/
import Derived.Test.YtbffmobjiiicoaaDoorProg
import Derived.WalkKit
import Derived.WalkLawsBesides
import Derived.Lib.Mul64
import Derived.Laws.Bits64b
import Derived.Laws.Externs
import Derived.Laws.Shifts
import Derived.Lib.Hide
import Derived.RegionTactic
import Derived.ChangeAlike
import Derived.Deep.QuietTactic
import Derived.Deep.RegionWith
import Derived.BigQuiet
import Derived.OwnWalk
import Derived.Below
import Derived.WalkSmall
import Derived.LoopN
import Derived.Deep.CutBlock
set_option linter.unusedVariables false
namespace Go.Proofs.YtbffmobjiiicoaaDoor
open Go.RowKit
/-- The two words of a number that is divided by 1000000, and what bits.Div64 makes of them. -/
structure Dv (hi lo un32 q1 un21 q0 : Nat) : Prop where
  u : un32 = hi * 17592186044416 + lo / 1048576
  q1 : q1 = un32 / 4096000000
  u21 : un21 = un32 % 4096000000 * 4294967296 + lo % 1048576 * 4096
  q0 : q0 = un21 / 4096000000
theorem Dv.says {hi lo un32 q1 un21 q0 : Nat} (h : Dv hi lo un32 q1 un21 q0) (hh : hi < 1000000) (hl : lo < 18446744073709551616) :
    un32 < 18446744073709551616 ∧ q1 < 4294967296 ∧ un21 < 17592186044416000000 ∧ q0 < 4294967296 ∧ (hi * 18446744073709551616 + lo) / 1000000 = q1 * 4294967296 + q0 ∧ (hi * 18446744073709551616 + lo) % 1000000 = un21 % 4096000000 / 4096 := by
  obtain ⟨h1, h2, h3, h4⟩ := h
  omega
set_option maxRecDepth 20000 in
theorem len_m (w : World) : Calls Tryd.prog 91 #[.int .u64 1000000] w fun e w' => e = .returned (.int .i64 20) ∧ w = w' := by
  go_enter Tryd.func91, Tryd.ntmps91
  go_wp2
  go_ret
  exact ⟨by kernel_rfl, rfl⟩
theorem lead_m (w : World) : Calls Tryd.prog 80 #[.int .u64 1000000] w fun e w' => e = .returned (.int .i64 44) ∧ w = w' := by
  go_enter Tryd.func80, Tryd.ntmps80
  go_wp2_with (go_at_call 91; refine (len_m _).mono ?_; rintro e w' ⟨rfl, rfl⟩)
  go_ret
  exact ⟨rfl, rfl⟩
theorem or_words (hi lo : Nat) (hh : hi < 1000000) (hl : lo < 18446744073709551616) : bits .or .u64 ((hi : Int) * 17592186044416) ((lo : Int) / 1048576) = ((hi * 17592186044416 + lo / 1048576 : Nat) : Int) := by
  rw [show (hi : Int) * 17592186044416 = ((hi * 17592186044416 : Nat) : Int) by omega, show (lo : Int) / 1048576 = ((lo / 1048576 : Nat) : Int) by omega, bits_or_u64_nat _ _ (by omega) (by omega)]
  have := Nat.two_pow_add_eq_or_of_lt (i := 44) (b := lo / 1048576) (by omega) hi
  rw [show 2 ^ 44 * hi = hi * 17592186044416 by omega] at this
  rw [← this]
theorem or_low (hi lo : Nat) (hh : hi < 1000000) (hl : lo < 18446744073709551616) : bits .or .u64 (IntKind.u64.wrap ((hi : Int) * 17592186044416)) ((lo : Int) / 1048576) = ((hi * 17592186044416 + lo / 1048576 : Nat) : Int) := by
  rw [show IntKind.u64.wrap ((hi : Int) * 17592186044416) = (hi : Int) * 17592186044416 by rw [IntKind.wrap_u64]; omega]
  exact or_words hi lo hh hl
set_option maxHeartbeats 1000000 in
theorem div_small (lo : Nat) (hl : lo < 18446744073709551616) (w : World) :
    Calls Tryd.prog 63 #[.int .u64 0, .int .u64 lo, .int .u64 1000000] w fun e w' => e = .returned (.tuple #[.int .u64 ((lo / 1000000 : Nat) : Int), .int .u64 ((lo % 1000000 : Nat) : Int)]) ∧ Below w.heap.size w w' := by
  have e1 : (lo : Int).tdiv 1000000 = ((lo / 1000000 : Nat) : Int) := by rw [Int.tdiv_eq_ediv_of_nonneg (by omega)]; omega
  have e2 : (lo : Int).tmod 1000000 = ((lo % 1000000 : Nat) : Int) := by rw [Int.tmod_eq_emod_of_nonneg (by omega)]; omega
  go_enter Tryd.func63, Tryd.ntmps63
  go_wp2
  go_quiet (fail)
  go_wp2
  go_ret2
  exact ⟨by first | rfl | (rw [e1, e2]) | trace_state, below_drewN (Below.refl _ w) _⟩
theorem mask_y : bits BinOp.and IntKind.u64 17592186044416000000 4294967295 = 0 := by decide +kernel
theorem wrap_lo (lo : Nat) : IntKind.u64.wrap ((lo : Int) * 17592186044416) = ((lo % 1048576 * 17592186044416 : Nat) : Int) := by rw [IntKind.wrap_u64]; omega
theorem mask_lo (lo : Nat) : bits BinOp.and IntKind.u64 (IntKind.u64.wrap ((lo : Int) * 17592186044416)) 4294967295 = 0 := by
  rw [wrap_lo, show (4294967295 : Int) = ((4294967295 : Nat) : Int) by rfl, bits_and_u64_nat _ _ (by omega) (by omega)]
  rw [show (4294967295 : Nat) = 2 ^ 32 - 1 by rfl, Nat.and_two_pow_sub_one_eq_mod]
  omega
set_option maxRecDepth 20000 in
set_option maxHeartbeats 2000000 in
theorem div_great (hi lo un32 q1 un21 q0 : Nat) (h1 : 0 < hi) (hh : hi < 1000000) (hl : lo < 18446744073709551616) (hd : Dv hi lo un32 q1 un21 q0) (w : World) :
    Calls Tryd.prog 63 #[.int .u64 hi, .int .u64 lo, .int .u64 1000000] w fun e w' => e = .returned (.tuple #[.int .u64 ((q1 * 4294967296 + q0 : Nat) : Int), .int .u64 ((un21 % 4096000000 / 4096 : Nat) : Int)]) ∧ Below w.heap.size w w' := by
  have ho := or_low hi lo hh hl
  have hz : ((hi : Int) == 0) = false := by simp; omega
  have hy : decide ((1000000 : Int) ≤ (hi : Int)) = false := by simp; omega
  obtain ⟨s1, s2, s3, s4, _, _⟩ := hd.says hh hl
  obtain ⟨d1, d2, d3, d4⟩ := hd
  rw [← d1] at ho
  obtain ⟨u1, hu1⟩ : ∃ u1 : Nat, lo % 1048576 * 4096 = u1 := ⟨_, rfl⟩
  obtain ⟨r1, hr1⟩ : ∃ r1 : Nat, un32 % 4096000000 = r1 := ⟨_, rfl⟩
  obtain ⟨r0, hr0⟩ : ∃ r0 : Nat, un21 % 4096000000 = r0 := ⟨_, rfl⟩
  obtain ⟨t0, ht0⟩ : ∃ t0 : Nat, 4294967296 * r0 = t0 := ⟨_, rfl⟩
  obtain ⟨t1, ht1⟩ : ∃ t1 : Nat, 4294967296 * r1 = t1 := ⟨_, rfl⟩
  obtain ⟨Q1, hQ1⟩ : ∃ Q1 : Nat, q1 * 4294967296 = Q1 := ⟨_, rfl⟩
  obtain ⟨Q, hQ⟩ : ∃ Q : Nat, Q1 + q0 = Q := ⟨_, rfl⟩
  obtain ⟨rem, hrem⟩ : ∃ rem : Nat, r0 / 4096 = rem := ⟨_, rfl⟩
  obtain ⟨z, hz2⟩ : ∃ z : Nat, un21 * 4294967296 % 18446744073709551616 = z := ⟨_, rfl⟩
  obtain ⟨v, hv⟩ : ∃ v : Nat, q0 * 17592186044416000000 % 18446744073709551616 = v := ⟨_, rfl⟩
  obtain ⟨z2, hz3⟩ : ∃ z : Nat, un32 * 4294967296 % 18446744073709551616 = z := ⟨_, rfl⟩
  obtain ⟨v2, hv2⟩ : ∃ v : Nat, q1 * 17592186044416000000 % 18446744073709551616 = v := ⟨_, rfl⟩
  obtain ⟨z4, hz4⟩ : ∃ z : Nat, (z2 + u1) % 18446744073709551616 = z := ⟨_, rfl⟩
  obtain ⟨m1, hm1⟩ : ∃ m : Nat, q1 * 4096000000 = m := ⟨_, rfl⟩
  obtain ⟨m0, hm0⟩ : ∃ m : Nat, q0 * 4096000000 = m := ⟨_, rfl⟩
  rw [hu1, hr1] at d3
  rw [hQ1, hQ, hr0, hrem]
  have hu2 : u1 < 4294967296 := by omega
  have e13 : IntKind.u64.wrap ((lo : Int) * 17592186044416) / 4294967296 = (u1 : Int) := by rw [wrap_lo]; omega
  have e14 := mask_lo lo
  have ey := mask_y
  have e15 : IntKind.u64.wrap ((un32 : Int).tdiv 4096000000) = (q1 : Int) := by rw [Int.tdiv_eq_ediv_of_nonneg (by omega), IntKind.wrap_u64]; omega
  have e15b : IntKind.u64.wrap ((un32 : Int) / 4096000000) = (q1 : Int) := by rw [IntKind.wrap_u64]; omega
  have e22b : IntKind.u64.wrap ((un21 : Int) / 4096000000) = (q0 : Int) := by rw [IntKind.wrap_u64]; omega
  have e16 : IntKind.u64.wrap ((q1 : Int) * 4096000000) = (m1 : Int) := by rw [IntKind.wrap_u64]; omega
  have e16b : IntKind.u64.wrap ((un32 : Int) - (m1 : Int)) = (r1 : Int) := by rw [IntKind.wrap_u64]; omega
  have c17 : decide ((4294967296 : Int) ≤ (q1 : Int)) = false := by simp; omega
  have e17 : IntKind.u64.wrap (4294967296 * (r1 : Int)) = (t1 : Int) := by rw [IntKind.wrap_u64]; omega
  have e17b : IntKind.u64.wrap ((t1 : Int) + (u1 : Int)) = (un21 : Int) := by rw [IntKind.wrap_u64]; omega
  have c17b : decide ((un21 : Int) < 0) = false := by simp
  have e21 : IntKind.u64.wrap ((un32 : Int) * 4294967296) = (z2 : Int) := by rw [IntKind.wrap_u64]; omega
  have e21b : IntKind.u64.wrap ((z2 : Int) + (u1 : Int)) = (z4 : Int) := by rw [IntKind.wrap_u64]; omega
  have e21c : IntKind.u64.wrap ((q1 : Int) * 17592186044416000000) = (v2 : Int) := by rw [IntKind.wrap_u64]; omega
  have e21d : IntKind.u64.wrap ((z4 : Int) - (v2 : Int)) = (un21 : Int) := by rw [IntKind.wrap_u64]; omega
  have e22 : IntKind.u64.wrap ((un21 : Int).tdiv 4096000000) = (q0 : Int) := by rw [Int.tdiv_eq_ediv_of_nonneg (by omega), IntKind.wrap_u64]; omega
  have e23 : IntKind.u64.wrap ((q0 : Int) * 4096000000) = (m0 : Int) := by rw [IntKind.wrap_u64]; omega
  have e23b : IntKind.u64.wrap ((un21 : Int) - (m0 : Int)) = (r0 : Int) := by rw [IntKind.wrap_u64]; omega
  have c24 : decide ((4294967296 : Int) ≤ (q0 : Int)) = false := by simp; omega
  have e24 : IntKind.u64.wrap (4294967296 * (r0 : Int)) = (t0 : Int) := by rw [IntKind.wrap_u64]; omega
  have e24b : IntKind.u64.wrap (t0 : Int) = (t0 : Int) := by rw [IntKind.wrap_u64]; omega
  have c24b : decide ((t0 : Int) < 0) = false := by simp
  have e28 : IntKind.u64.wrap ((q1 : Int) * 4294967296) = (Q1 : Int) := by rw [IntKind.wrap_u64]; omega
  have e28b : IntKind.u64.wrap ((Q1 : Int) + (q0 : Int)) = (Q : Int) := by rw [IntKind.wrap_u64]; omega
  have e28c : IntKind.u64.wrap ((un21 : Int) * 4294967296) = (z : Int) := by rw [IntKind.wrap_u64]; omega
  have e28d : IntKind.u64.wrap (z : Int) = (z : Int) := by rw [IntKind.wrap_u64]; omega
  have e28e : IntKind.u64.wrap ((q0 : Int) * 17592186044416000000) = (v : Int) := by rw [IntKind.wrap_u64]; omega
  have e28f : IntKind.u64.wrap ((z : Int) - (v : Int)) / 17592186044416 = (rem : Int) := by rw [IntKind.wrap_u64]; omega
  clear h1 d1 d2 d3 d4 s1 s2 s3 s4 hu1 hu2 hr1 hr0 ht0 ht1 hQ1 hQ hrem hz2 hv hz3 hv2 hz4 hm1 hm0 hh hl
  go_enter Tryd.func63, Tryd.ntmps63
  go_wp2_with fail
  refine (lead_m _).mono ?_; rintro e w' ⟨rfl, rfl⟩
  go_upto_region 16 with fail
  trace "AT16"
  go_wp2
  trace_state
  refine wp_loop_rounds 1 ?_
  rw [rounds_succ]
  go_wp2
  refine wp_loop_rounds 1 ?_
  rw [rounds_succ]
  go_wp2
  go_ret2
  exact ⟨rfl, Below.refl _ _⟩
end Go.Proofs.YtbffmobjiiicoaaDoor
