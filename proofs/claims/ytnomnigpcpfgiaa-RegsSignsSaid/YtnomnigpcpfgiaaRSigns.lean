/- Signed and Unsigned of package regs, the document's, and the walk of RegsSigns. -/
import Derived.Test.YtnomnigpcpfgiaaRLeaf
set_option linter.unusedVariables false
namespace Go.Proofs.Ytnomnigpcpfgiaa
open Go.RowKit
theorem signed_len (v m : Int) (h : lenB m = false) (w : World) :
    Calls Try.prog 15 #[.int .u64 v, .int .i64 m] w fun e w' => e = .returned (.tuple #[.int .i64 0, .int .i64 20]) ∧ w = w' := by
  go_enter Try.func15, Try.ntmps15
  go_wp2_with (first | ((with_reducible (go_at_call 26; refine (fits_len_no _ _ h _).mono ?_)); rintro e w' ⟨rfl, rfl⟩) )
  go_ret2
  exact ⟨rfl, rfl⟩
theorem rsigned_len (v m : Int) (h : lenB m = false) (w : World) :
    Calls Try.prog 16 #[.int .u64 v, .int .i64 m] w fun e w' => e = .returned (.tuple #[.int .i64 0, .int .i64 20]) ∧ w = w' := by
  go_enter Try.func16, Try.ntmps16
  go_wp2_with (first | ((with_reducible (go_at_call 30; refine (may_no _ h _).mono ?_)); rintro e w' ⟨rfl, rfl⟩) )
  go_ret2
  exact ⟨rfl, rfl⟩
theorem unsigned_len (v m : Int) (h : lenB m = false) (w : World) :
    Calls Try.prog 17 #[.int .i64 v, .int .i64 m] w fun e w' => e = .returned (.tuple #[.int .u64 0, .int .i64 20]) ∧ w = w' := by
  go_enter Try.func17, Try.ntmps17
  go_wp2_with (first | ((with_reducible (go_at_call 33; refine (isLength_no _ h _).mono ?_)); rintro e w' ⟨rfl, rfl⟩) )
  go_ret2
  exact ⟨rfl, rfl⟩
theorem runsigned_len (v m : Int) (h : lenB m = false) (w : World) :
    Calls Try.prog 18 #[.int .i64 v, .int .i64 m] w fun e w' => e = .returned (.tuple #[.int .u64 0, .int .i64 20]) ∧ w = w' := by
  go_enter Try.func18, Try.ntmps18
  go_wp2_with (first | ((with_reducible (go_at_call 30; refine (may_no _ h _).mono ?_)); rintro e w' ⟨rfl, rfl⟩) )
  go_ret2
  exact ⟨rfl, rfl⟩
theorem ret2_eq {k k' : IntKind} {a b : Int} {c : Int} (h : a = b) : Ending.returned (.tuple #[.int k a, .int k' c]) = .returned (.tuple #[.int k b, .int k' c]) := by rw [h]
theorem signed1_yes (v : Int) (h0 : 0 ≤ v) (h1 : v < 65536) (w : World) :
    Calls Try.prog 15 #[.int .u64 v, .int .i64 1] w fun e w' => e = .returned (.tuple #[.int .i64 (sgm 65536 v), .int .i64 0]) ∧ w = w' := by
  have HE : Hid (sgm 65536 (v % 65536) = sgm 65536 v) := by show sgm 65536 (v % 65536) = sgm 65536 v; rw [Int.emod_eq_of_lt h0 h1]
  have h2 : v ≤ 18446744073709551615 := by omega
  go_enter Try.func15, Try.ntmps15
  go_wp2_with (first | ((with_reducible (go_at_call 26; refine (fits1_yes _ h0 h1 _).mono ?_)); rintro e w' ⟨rfl, rfl⟩) | ((with_reducible (go_at_call 35; refine (extend1 _ h0 h2 _).mono ?_)); rintro e w' ⟨rfl, rfl⟩) )
  go_ret2
  exact ⟨ret2_eq HE.out, rfl⟩
theorem rsigned1_lo (v : Int) (h0 : 0 ≤ v) (h1 : v < 32768) (w : World) :
    Calls Try.prog 16 #[.int .u64 v, .int .i64 1] w fun e w' => e = .returned (.tuple #[.int .i64 (sgm 65536 v), .int .i64 0]) ∧ w = w' := by
  have HE : Hid (v = sgm 65536 v) := by show v = sgm 65536 v; unfold sgm; rw [if_pos (by omega)]
  have h2 : v < 65536 := by omega
  go_enter Try.func16, Try.ntmps16
  go_wp2_with (first | ((with_reducible (go_at_call 30; refine (may_yes _ rfl _).mono ?_)); rintro e w' ⟨rfl, rfl⟩) | ((with_reducible (go_at_call 31; refine (rfits1_yes _ h0 h2 _).mono ?_)); rintro e w' ⟨rfl, rfl⟩) | ((with_reducible (go_at_call 36; refine (half1 _).mono ?_)); rintro e w' ⟨rfl, rfl⟩) )
  go_ret2
  exact ⟨ret2_eq HE.out, rfl⟩
theorem rsigned1_hi (v : Int) (h0 : 32768 ≤ v) (h1 : v < 65536) (w : World) :
    Calls Try.prog 16 #[.int .u64 v, .int .i64 1] w fun e w' => e = .returned (.tuple #[.int .i64 (sgm 65536 v), .int .i64 0]) ∧ w = w' := by
  have HE : Hid (v - 32768 - 32767 - 1 = sgm 65536 v) := by show v - 32768 - 32767 - 1 = sgm 65536 v; unfold sgm; rw [if_neg (by omega)]; omega
  have h2 : 0 ≤ v := by omega
  have hd : decide (v < 32768) = false := by simp; omega
  go_enter Try.func16, Try.ntmps16
  go_wp2_with (first | ((with_reducible (go_at_call 30; refine (may_yes _ rfl _).mono ?_)); rintro e w' ⟨rfl, rfl⟩) | ((with_reducible (go_at_call 31; refine (rfits1_yes _ h2 h1 _).mono ?_)); rintro e w' ⟨rfl, rfl⟩) | ((with_reducible (go_at_call 36; refine (half1 _).mono ?_)); rintro e w' ⟨rfl, rfl⟩) )
  go_ret2
  exact ⟨ret2_eq HE.out, rfl⟩
theorem rsigned1_yes (v : Int) (h0 : 0 ≤ v) (h1 : v < 65536) (w : World) :
    Calls Try.prog 16 #[.int .u64 v, .int .i64 1] w fun e w' => e = .returned (.tuple #[.int .i64 (sgm 65536 v), .int .i64 0]) ∧ w = w' := by
  rcases Int.lt_or_le v 32768 with h | h
  · exact rsigned1_lo v h0 h w
  · exact rsigned1_hi v h h1 w
theorem signed1_no (v : Int) (h0 : 0 ≤ v) (h1 : 65536 ≤ v) (w : World) :
    Calls Try.prog 15 #[.int .u64 v, .int .i64 1] w fun e w' => e = .returned (.tuple #[.int .i64 0, .int .i64 20]) ∧ w = w' := by
  go_enter Try.func15, Try.ntmps15
  go_wp2_with (first | ((with_reducible (go_at_call 26; refine (fits1_no _ h0 h1 _).mono ?_)); rintro e w' ⟨rfl, rfl⟩) )
  go_ret2
  exact ⟨rfl, rfl⟩
theorem rsigned1_no (v : Int) (h0 : 0 ≤ v) (h1 : 65536 ≤ v) (w : World) :
    Calls Try.prog 16 #[.int .u64 v, .int .i64 1] w fun e w' => e = .returned (.tuple #[.int .i64 0, .int .i64 20]) ∧ w = w' := by
  go_enter Try.func16, Try.ntmps16
  go_wp2_with (first | ((with_reducible (go_at_call 30; refine (may_yes _ rfl _).mono ?_)); rintro e w' ⟨rfl, rfl⟩) | ((with_reducible (go_at_call 31; refine (rfits1_no _ h0 h1 _).mono ?_)); rintro e w' ⟨rfl, rfl⟩) )
  go_ret2
  exact ⟨rfl, rfl⟩
theorem signed2_yes (v : Int) (h0 : 0 ≤ v) (h1 : v < 4294967296) (w : World) :
    Calls Try.prog 15 #[.int .u64 v, .int .i64 2] w fun e w' => e = .returned (.tuple #[.int .i64 (sgm 4294967296 v), .int .i64 0]) ∧ w = w' := by
  have HE : Hid (sgm 4294967296 (v % 4294967296) = sgm 4294967296 v) := by show sgm 4294967296 (v % 4294967296) = sgm 4294967296 v; rw [Int.emod_eq_of_lt h0 h1]
  have h2 : v ≤ 18446744073709551615 := by omega
  go_enter Try.func15, Try.ntmps15
  go_wp2_with (first | ((with_reducible (go_at_call 26; refine (fits2_yes _ h0 h1 _).mono ?_)); rintro e w' ⟨rfl, rfl⟩) | ((with_reducible (go_at_call 35; refine (extend2 _ h0 h2 _).mono ?_)); rintro e w' ⟨rfl, rfl⟩) )
  go_ret2
  exact ⟨ret2_eq HE.out, rfl⟩
theorem rsigned2_lo (v : Int) (h0 : 0 ≤ v) (h1 : v < 2147483648) (w : World) :
    Calls Try.prog 16 #[.int .u64 v, .int .i64 2] w fun e w' => e = .returned (.tuple #[.int .i64 (sgm 4294967296 v), .int .i64 0]) ∧ w = w' := by
  have HE : Hid (v = sgm 4294967296 v) := by show v = sgm 4294967296 v; unfold sgm; rw [if_pos (by omega)]
  have h2 : v < 4294967296 := by omega
  go_enter Try.func16, Try.ntmps16
  go_wp2_with (first | ((with_reducible (go_at_call 30; refine (may_yes _ rfl _).mono ?_)); rintro e w' ⟨rfl, rfl⟩) | ((with_reducible (go_at_call 31; refine (rfits2_yes _ h0 h2 _).mono ?_)); rintro e w' ⟨rfl, rfl⟩) | ((with_reducible (go_at_call 36; refine (half2 _).mono ?_)); rintro e w' ⟨rfl, rfl⟩) )
  go_ret2
  exact ⟨ret2_eq HE.out, rfl⟩
theorem rsigned2_hi (v : Int) (h0 : 2147483648 ≤ v) (h1 : v < 4294967296) (w : World) :
    Calls Try.prog 16 #[.int .u64 v, .int .i64 2] w fun e w' => e = .returned (.tuple #[.int .i64 (sgm 4294967296 v), .int .i64 0]) ∧ w = w' := by
  have HE : Hid (v - 2147483648 - 2147483647 - 1 = sgm 4294967296 v) := by show v - 2147483648 - 2147483647 - 1 = sgm 4294967296 v; unfold sgm; rw [if_neg (by omega)]; omega
  have h2 : 0 ≤ v := by omega
  have hd : decide (v < 2147483648) = false := by simp; omega
  go_enter Try.func16, Try.ntmps16
  go_wp2_with (first | ((with_reducible (go_at_call 30; refine (may_yes _ rfl _).mono ?_)); rintro e w' ⟨rfl, rfl⟩) | ((with_reducible (go_at_call 31; refine (rfits2_yes _ h2 h1 _).mono ?_)); rintro e w' ⟨rfl, rfl⟩) | ((with_reducible (go_at_call 36; refine (half2 _).mono ?_)); rintro e w' ⟨rfl, rfl⟩) )
  go_ret2
  exact ⟨ret2_eq HE.out, rfl⟩
theorem rsigned2_yes (v : Int) (h0 : 0 ≤ v) (h1 : v < 4294967296) (w : World) :
    Calls Try.prog 16 #[.int .u64 v, .int .i64 2] w fun e w' => e = .returned (.tuple #[.int .i64 (sgm 4294967296 v), .int .i64 0]) ∧ w = w' := by
  rcases Int.lt_or_le v 2147483648 with h | h
  · exact rsigned2_lo v h0 h w
  · exact rsigned2_hi v h h1 w
theorem signed2_no (v : Int) (h0 : 0 ≤ v) (h1 : 4294967296 ≤ v) (w : World) :
    Calls Try.prog 15 #[.int .u64 v, .int .i64 2] w fun e w' => e = .returned (.tuple #[.int .i64 0, .int .i64 20]) ∧ w = w' := by
  go_enter Try.func15, Try.ntmps15
  go_wp2_with (first | ((with_reducible (go_at_call 26; refine (fits2_no _ h0 h1 _).mono ?_)); rintro e w' ⟨rfl, rfl⟩) )
  go_ret2
  exact ⟨rfl, rfl⟩
theorem rsigned2_no (v : Int) (h0 : 0 ≤ v) (h1 : 4294967296 ≤ v) (w : World) :
    Calls Try.prog 16 #[.int .u64 v, .int .i64 2] w fun e w' => e = .returned (.tuple #[.int .i64 0, .int .i64 20]) ∧ w = w' := by
  go_enter Try.func16, Try.ntmps16
  go_wp2_with (first | ((with_reducible (go_at_call 30; refine (may_yes _ rfl _).mono ?_)); rintro e w' ⟨rfl, rfl⟩) | ((with_reducible (go_at_call 31; refine (rfits2_no _ h0 h1 _).mono ?_)); rintro e w' ⟨rfl, rfl⟩) )
  go_ret2
  exact ⟨rfl, rfl⟩
theorem signed4_yes (v : Int) (h0 : 0 ≤ v) (h1 : v < 18446744073709551616) (w : World) :
    Calls Try.prog 15 #[.int .u64 v, .int .i64 4] w fun e w' => e = .returned (.tuple #[.int .i64 (sgm 18446744073709551616 v), .int .i64 0]) ∧ w = w' := by
  have HE : Hid (sgm 18446744073709551616 (v % 18446744073709551616) = sgm 18446744073709551616 v) := by show sgm 18446744073709551616 (v % 18446744073709551616) = sgm 18446744073709551616 v; rw [Int.emod_eq_of_lt h0 h1]
  have h2 : v ≤ 18446744073709551615 := by omega
  go_enter Try.func15, Try.ntmps15
  go_wp2_with (first | ((with_reducible (go_at_call 26; refine (fits4_yes _ h0 h1 _).mono ?_)); rintro e w' ⟨rfl, rfl⟩) | ((with_reducible (go_at_call 35; refine (extend4 _ h0 h2 _).mono ?_)); rintro e w' ⟨rfl, rfl⟩) )
  go_ret2
  exact ⟨ret2_eq HE.out, rfl⟩
theorem rsigned4_lo (v : Int) (h0 : 0 ≤ v) (h1 : v < 9223372036854775808) (w : World) :
    Calls Try.prog 16 #[.int .u64 v, .int .i64 4] w fun e w' => e = .returned (.tuple #[.int .i64 (sgm 18446744073709551616 v), .int .i64 0]) ∧ w = w' := by
  have HE : Hid (v = sgm 18446744073709551616 v) := by show v = sgm 18446744073709551616 v; unfold sgm; rw [if_pos (by omega)]
  have h2 : v < 18446744073709551616 := by omega
  go_enter Try.func16, Try.ntmps16
  go_wp2_with (first | ((with_reducible (go_at_call 30; refine (may_yes _ rfl _).mono ?_)); rintro e w' ⟨rfl, rfl⟩) | ((with_reducible (go_at_call 31; refine (rfits4_yes _ h0 h2 _).mono ?_)); rintro e w' ⟨rfl, rfl⟩) | ((with_reducible (go_at_call 36; refine (half4 _).mono ?_)); rintro e w' ⟨rfl, rfl⟩) )
  go_ret2
  exact ⟨ret2_eq HE.out, rfl⟩
theorem rsigned4_hi (v : Int) (h0 : 9223372036854775808 ≤ v) (h1 : v < 18446744073709551616) (w : World) :
    Calls Try.prog 16 #[.int .u64 v, .int .i64 4] w fun e w' => e = .returned (.tuple #[.int .i64 (sgm 18446744073709551616 v), .int .i64 0]) ∧ w = w' := by
  have HE : Hid (v - 9223372036854775808 - 9223372036854775807 - 1 = sgm 18446744073709551616 v) := by show v - 9223372036854775808 - 9223372036854775807 - 1 = sgm 18446744073709551616 v; unfold sgm; rw [if_neg (by omega)]; omega
  have h2 : 0 ≤ v := by omega
  have hd : decide (v < 9223372036854775808) = false := by simp; omega
  go_enter Try.func16, Try.ntmps16
  go_wp2_with (first | ((with_reducible (go_at_call 30; refine (may_yes _ rfl _).mono ?_)); rintro e w' ⟨rfl, rfl⟩) | ((with_reducible (go_at_call 31; refine (rfits4_yes _ h2 h1 _).mono ?_)); rintro e w' ⟨rfl, rfl⟩) | ((with_reducible (go_at_call 36; refine (half4 _).mono ?_)); rintro e w' ⟨rfl, rfl⟩) )
  go_ret2
  exact ⟨ret2_eq HE.out, rfl⟩
theorem rsigned4_yes (v : Int) (h0 : 0 ≤ v) (h1 : v < 18446744073709551616) (w : World) :
    Calls Try.prog 16 #[.int .u64 v, .int .i64 4] w fun e w' => e = .returned (.tuple #[.int .i64 (sgm 18446744073709551616 v), .int .i64 0]) ∧ w = w' := by
  rcases Int.lt_or_le v 9223372036854775808 with h | h
  · exact rsigned4_lo v h0 h w
  · exact rsigned4_hi v h h1 w
theorem unsigned1_pos (v : Int) (h0 : 0 ≤ v) (h1 : v < 32768) (w : World) :
    Calls Try.prog 17 #[.int .i64 v, .int .i64 1] w fun e w' => e = .returned (.tuple #[.int .u64 (v % 65536), .int .i64 0]) ∧ w = w' := by
  have e1 : (sgm 65536 (v % 65536) != v) = false := by
    have : sgm 65536 (v % 65536) = v := by unfold sgm; split <;> omega
    simpa using this
  go_enter Try.func17, Try.ntmps17
  go_wp2_with (first | ((with_reducible (go_at_call 33; refine (isLength_yes _ rfl _).mono ?_)); rintro e w' ⟨rfl, rfl⟩) | (go_at_call 35; refine (extend1 _ (by omega) (by omega) _).mono ?_; rintro e w' ⟨rfl, rfl⟩))
  go_ret2
  exact ⟨ret2_eq (by first | omega | (simp only [IntKind.wrap_u64]; omega) | (simp only [IntKind.wrap_u64])), rfl⟩
theorem unsigned1_neg (v : Int) (h0 : -32768 ≤ v) (h1 : v < 0) (w : World) :
    Calls Try.prog 17 #[.int .i64 v, .int .i64 1] w fun e w' => e = .returned (.tuple #[.int .u64 (v % 65536), .int .i64 0]) ∧ w = w' := by
  have hu : 0 ≤ IntKind.u64.wrap v ∧ IntKind.u64.wrap v ≤ 18446744073709551615 := by rw [IntKind.wrap_u64]; omega
  obtain ⟨u0, u1⟩ := hu
  have e1 : (sgm 65536 (IntKind.u64.wrap v % 65536) != v) = false := by
    have : sgm 65536 (IntKind.u64.wrap v % 65536) = v := by rw [IntKind.wrap_u64]; unfold sgm; split <;> omega
    simpa using this
  go_enter Try.func17, Try.ntmps17
  go_wp2_with (first | ((with_reducible (go_at_call 33; refine (isLength_yes _ rfl _).mono ?_)); rintro e w' ⟨rfl, rfl⟩) | (go_at_call 35; refine (extend1 _ (by omega) (by omega) _).mono ?_; rintro e w' ⟨rfl, rfl⟩))
  go_ret2
  exact ⟨ret2_eq (by first | (simp only [IntKind.wrap_u64]; done) | (simp only [IntKind.wrap_u64]; omega)), rfl⟩
theorem unsigned1_hi (v : Int) (h0 : 32768 ≤ v) (h1 : v ≤ 9223372036854775807) (w : World) :
    Calls Try.prog 17 #[.int .i64 v, .int .i64 1] w fun e w' => e = .returned (.tuple #[.int .u64 0, .int .i64 20]) ∧ w = w' := by
  have e1 : (sgm 65536 (v % 65536) != v) = true := by
    have : sgm 65536 (v % 65536) ≠ v := by unfold sgm; split <;> omega
    simpa using this
  go_enter Try.func17, Try.ntmps17
  go_wp2_with (first | ((with_reducible (go_at_call 33; refine (isLength_yes _ rfl _).mono ?_)); rintro e w' ⟨rfl, rfl⟩) | (go_at_call 35; refine (extend1 _ (by omega) (by omega) _).mono ?_; rintro e w' ⟨rfl, rfl⟩))
  go_ret2
  exact ⟨rfl, rfl⟩
theorem unsigned1_lo (v : Int) (h0 : -9223372036854775808 ≤ v) (h1 : v < -32768) (w : World) :
    Calls Try.prog 17 #[.int .i64 v, .int .i64 1] w fun e w' => e = .returned (.tuple #[.int .u64 0, .int .i64 20]) ∧ w = w' := by
  have hu : 0 ≤ IntKind.u64.wrap v ∧ IntKind.u64.wrap v ≤ 18446744073709551615 := by rw [IntKind.wrap_u64]; omega
  obtain ⟨u0, u1⟩ := hu
  have e1 : (sgm 65536 (IntKind.u64.wrap v % 65536) != v) = true := by
    have : sgm 65536 (IntKind.u64.wrap v % 65536) ≠ v := by rw [IntKind.wrap_u64]; unfold sgm; split <;> omega
    simpa using this
  go_enter Try.func17, Try.ntmps17
  go_wp2_with (first | ((with_reducible (go_at_call 33; refine (isLength_yes _ rfl _).mono ?_)); rintro e w' ⟨rfl, rfl⟩) | (go_at_call 35; refine (extend1 _ (by omega) (by omega) _).mono ?_; rintro e w' ⟨rfl, rfl⟩))
  go_ret2
  exact ⟨rfl, rfl⟩
theorem runsigned1_pos (v : Int) (h0 : 0 ≤ v) (h1 : v < 32768) (w : World) :
    Calls Try.prog 18 #[.int .i64 v, .int .i64 1] w fun e w' => e = .returned (.tuple #[.int .u64 (v % 65536), .int .i64 0]) ∧ w = w' := by
  have d1 : decide (32767 < v) = false := decide_eq_false (by omega)
  have d2 : decide (v < -32768) = false := decide_eq_false (by omega)
  go_enter Try.func18, Try.ntmps18
  go_wp2_with (first | ((with_reducible (go_at_call 30; refine (may_yes _ rfl _).mono ?_)); rintro e w' ⟨rfl, rfl⟩) | ((with_reducible (go_at_call 36; refine (half1 _).mono ?_)); rintro e w' ⟨rfl, rfl⟩) )
  go_ret2
  exact ⟨ret2_eq (by first | omega | (simp only [IntKind.wrap_u64]; omega) | (simp only [IntKind.wrap_u64])), rfl⟩
theorem runsigned1_neg (v : Int) (h0 : -32768 ≤ v) (h1 : v < 0) (w : World) :
    Calls Try.prog 18 #[.int .i64 v, .int .i64 1] w fun e w' => e = .returned (.tuple #[.int .u64 (v % 65536), .int .i64 0]) ∧ w = w' := by
  have d1 : decide (32767 < v) = false := decide_eq_false (by omega)
  have d2 : decide (v < -32768) = false := decide_eq_false (by omega)
  have d3 : decide (0 ≤ v) = false := decide_eq_false (by omega)
  go_enter Try.func18, Try.ntmps18
  go_wp2_with (first | ((with_reducible (go_at_call 30; refine (may_yes _ rfl _).mono ?_)); rintro e w' ⟨rfl, rfl⟩) | ((with_reducible (go_at_call 36; refine (half1 _).mono ?_)); rintro e w' ⟨rfl, rfl⟩) )
  go_ret2
  exact ⟨ret2_eq (by first | omega | (simp only [IntKind.wrap_u64]; omega) | (simp only [IntKind.wrap_u64])), rfl⟩
theorem runsigned1_hi (v : Int) (h0 : 32768 ≤ v) (h1 : v ≤ 9223372036854775807) (w : World) :
    Calls Try.prog 18 #[.int .i64 v, .int .i64 1] w fun e w' => e = .returned (.tuple #[.int .u64 0, .int .i64 20]) ∧ w = w' := by
  have d1 : decide (32767 < v) = true := decide_eq_true (by omega)
  go_enter Try.func18, Try.ntmps18
  go_wp2_with (first | ((with_reducible (go_at_call 30; refine (may_yes _ rfl _).mono ?_)); rintro e w' ⟨rfl, rfl⟩) | ((with_reducible (go_at_call 36; refine (half1 _).mono ?_)); rintro e w' ⟨rfl, rfl⟩) )
  go_ret2
  exact ⟨rfl, rfl⟩
theorem runsigned1_lo (v : Int) (h0 : -9223372036854775808 ≤ v) (h1 : v < -32768) (w : World) :
    Calls Try.prog 18 #[.int .i64 v, .int .i64 1] w fun e w' => e = .returned (.tuple #[.int .u64 0, .int .i64 20]) ∧ w = w' := by
  have d1 : decide (32767 < v) = false := decide_eq_false (by omega)
  have d2 : decide (v < -32768) = true := decide_eq_true (by omega)
  go_enter Try.func18, Try.ntmps18
  go_wp2_with (first | ((with_reducible (go_at_call 30; refine (may_yes _ rfl _).mono ?_)); rintro e w' ⟨rfl, rfl⟩) | ((with_reducible (go_at_call 36; refine (half1 _).mono ?_)); rintro e w' ⟨rfl, rfl⟩) )
  go_ret2
  exact ⟨rfl, rfl⟩
theorem unsigned2_pos (v : Int) (h0 : 0 ≤ v) (h1 : v < 2147483648) (w : World) :
    Calls Try.prog 17 #[.int .i64 v, .int .i64 2] w fun e w' => e = .returned (.tuple #[.int .u64 (v % 4294967296), .int .i64 0]) ∧ w = w' := by
  have e1 : (sgm 4294967296 (v % 4294967296) != v) = false := by
    have : sgm 4294967296 (v % 4294967296) = v := by unfold sgm; split <;> omega
    simpa using this
  go_enter Try.func17, Try.ntmps17
  go_wp2_with (first | ((with_reducible (go_at_call 33; refine (isLength_yes _ rfl _).mono ?_)); rintro e w' ⟨rfl, rfl⟩) | (go_at_call 35; refine (extend2 _ (by omega) (by omega) _).mono ?_; rintro e w' ⟨rfl, rfl⟩))
  go_ret2
  exact ⟨ret2_eq (by first | omega | (simp only [IntKind.wrap_u64]; omega) | (simp only [IntKind.wrap_u64])), rfl⟩
theorem unsigned2_neg (v : Int) (h0 : -2147483648 ≤ v) (h1 : v < 0) (w : World) :
    Calls Try.prog 17 #[.int .i64 v, .int .i64 2] w fun e w' => e = .returned (.tuple #[.int .u64 (v % 4294967296), .int .i64 0]) ∧ w = w' := by
  have hu : 0 ≤ IntKind.u64.wrap v ∧ IntKind.u64.wrap v ≤ 18446744073709551615 := by rw [IntKind.wrap_u64]; omega
  obtain ⟨u0, u1⟩ := hu
  have e1 : (sgm 4294967296 (IntKind.u64.wrap v % 4294967296) != v) = false := by
    have : sgm 4294967296 (IntKind.u64.wrap v % 4294967296) = v := by rw [IntKind.wrap_u64]; unfold sgm; split <;> omega
    simpa using this
  go_enter Try.func17, Try.ntmps17
  go_wp2_with (first | ((with_reducible (go_at_call 33; refine (isLength_yes _ rfl _).mono ?_)); rintro e w' ⟨rfl, rfl⟩) | (go_at_call 35; refine (extend2 _ (by omega) (by omega) _).mono ?_; rintro e w' ⟨rfl, rfl⟩))
  go_ret2
  exact ⟨ret2_eq (by first | (simp only [IntKind.wrap_u64]; done) | (simp only [IntKind.wrap_u64]; omega)), rfl⟩
theorem unsigned2_hi (v : Int) (h0 : 2147483648 ≤ v) (h1 : v ≤ 9223372036854775807) (w : World) :
    Calls Try.prog 17 #[.int .i64 v, .int .i64 2] w fun e w' => e = .returned (.tuple #[.int .u64 0, .int .i64 20]) ∧ w = w' := by
  have e1 : (sgm 4294967296 (v % 4294967296) != v) = true := by
    have : sgm 4294967296 (v % 4294967296) ≠ v := by unfold sgm; split <;> omega
    simpa using this
  go_enter Try.func17, Try.ntmps17
  go_wp2_with (first | ((with_reducible (go_at_call 33; refine (isLength_yes _ rfl _).mono ?_)); rintro e w' ⟨rfl, rfl⟩) | (go_at_call 35; refine (extend2 _ (by omega) (by omega) _).mono ?_; rintro e w' ⟨rfl, rfl⟩))
  go_ret2
  exact ⟨rfl, rfl⟩
theorem unsigned2_lo (v : Int) (h0 : -9223372036854775808 ≤ v) (h1 : v < -2147483648) (w : World) :
    Calls Try.prog 17 #[.int .i64 v, .int .i64 2] w fun e w' => e = .returned (.tuple #[.int .u64 0, .int .i64 20]) ∧ w = w' := by
  have hu : 0 ≤ IntKind.u64.wrap v ∧ IntKind.u64.wrap v ≤ 18446744073709551615 := by rw [IntKind.wrap_u64]; omega
  obtain ⟨u0, u1⟩ := hu
  have e1 : (sgm 4294967296 (IntKind.u64.wrap v % 4294967296) != v) = true := by
    have : sgm 4294967296 (IntKind.u64.wrap v % 4294967296) ≠ v := by rw [IntKind.wrap_u64]; unfold sgm; split <;> omega
    simpa using this
  go_enter Try.func17, Try.ntmps17
  go_wp2_with (first | ((with_reducible (go_at_call 33; refine (isLength_yes _ rfl _).mono ?_)); rintro e w' ⟨rfl, rfl⟩) | (go_at_call 35; refine (extend2 _ (by omega) (by omega) _).mono ?_; rintro e w' ⟨rfl, rfl⟩))
  go_ret2
  exact ⟨rfl, rfl⟩
theorem runsigned2_pos (v : Int) (h0 : 0 ≤ v) (h1 : v < 2147483648) (w : World) :
    Calls Try.prog 18 #[.int .i64 v, .int .i64 2] w fun e w' => e = .returned (.tuple #[.int .u64 (v % 4294967296), .int .i64 0]) ∧ w = w' := by
  have d1 : decide (2147483647 < v) = false := decide_eq_false (by omega)
  have d2 : decide (v < -2147483648) = false := decide_eq_false (by omega)
  go_enter Try.func18, Try.ntmps18
  go_wp2_with (first | ((with_reducible (go_at_call 30; refine (may_yes _ rfl _).mono ?_)); rintro e w' ⟨rfl, rfl⟩) | ((with_reducible (go_at_call 36; refine (half2 _).mono ?_)); rintro e w' ⟨rfl, rfl⟩) )
  go_ret2
  exact ⟨ret2_eq (by first | omega | (simp only [IntKind.wrap_u64]; omega) | (simp only [IntKind.wrap_u64])), rfl⟩
theorem runsigned2_neg (v : Int) (h0 : -2147483648 ≤ v) (h1 : v < 0) (w : World) :
    Calls Try.prog 18 #[.int .i64 v, .int .i64 2] w fun e w' => e = .returned (.tuple #[.int .u64 (v % 4294967296), .int .i64 0]) ∧ w = w' := by
  have d1 : decide (2147483647 < v) = false := decide_eq_false (by omega)
  have d2 : decide (v < -2147483648) = false := decide_eq_false (by omega)
  have d3 : decide (0 ≤ v) = false := decide_eq_false (by omega)
  go_enter Try.func18, Try.ntmps18
  go_wp2_with (first | ((with_reducible (go_at_call 30; refine (may_yes _ rfl _).mono ?_)); rintro e w' ⟨rfl, rfl⟩) | ((with_reducible (go_at_call 36; refine (half2 _).mono ?_)); rintro e w' ⟨rfl, rfl⟩) )
  go_ret2
  exact ⟨ret2_eq (by first | omega | (simp only [IntKind.wrap_u64]; omega) | (simp only [IntKind.wrap_u64])), rfl⟩
theorem runsigned2_hi (v : Int) (h0 : 2147483648 ≤ v) (h1 : v ≤ 9223372036854775807) (w : World) :
    Calls Try.prog 18 #[.int .i64 v, .int .i64 2] w fun e w' => e = .returned (.tuple #[.int .u64 0, .int .i64 20]) ∧ w = w' := by
  have d1 : decide (2147483647 < v) = true := decide_eq_true (by omega)
  go_enter Try.func18, Try.ntmps18
  go_wp2_with (first | ((with_reducible (go_at_call 30; refine (may_yes _ rfl _).mono ?_)); rintro e w' ⟨rfl, rfl⟩) | ((with_reducible (go_at_call 36; refine (half2 _).mono ?_)); rintro e w' ⟨rfl, rfl⟩) )
  go_ret2
  exact ⟨rfl, rfl⟩
theorem runsigned2_lo (v : Int) (h0 : -9223372036854775808 ≤ v) (h1 : v < -2147483648) (w : World) :
    Calls Try.prog 18 #[.int .i64 v, .int .i64 2] w fun e w' => e = .returned (.tuple #[.int .u64 0, .int .i64 20]) ∧ w = w' := by
  have d1 : decide (2147483647 < v) = false := decide_eq_false (by omega)
  have d2 : decide (v < -2147483648) = true := decide_eq_true (by omega)
  go_enter Try.func18, Try.ntmps18
  go_wp2_with (first | ((with_reducible (go_at_call 30; refine (may_yes _ rfl _).mono ?_)); rintro e w' ⟨rfl, rfl⟩) | ((with_reducible (go_at_call 36; refine (half2 _).mono ?_)); rintro e w' ⟨rfl, rfl⟩) )
  go_ret2
  exact ⟨rfl, rfl⟩
theorem unsigned4_pos (v : Int) (h0 : 0 ≤ v) (h1 : v < 9223372036854775808) (w : World) :
    Calls Try.prog 17 #[.int .i64 v, .int .i64 4] w fun e w' => e = .returned (.tuple #[.int .u64 (v % 18446744073709551616), .int .i64 0]) ∧ w = w' := by
  have e1 : (sgm 18446744073709551616 (v % 18446744073709551616) != v) = false := by
    have : sgm 18446744073709551616 (v % 18446744073709551616) = v := by unfold sgm; split <;> omega
    simpa using this
  go_enter Try.func17, Try.ntmps17
  go_wp2_with (first | ((with_reducible (go_at_call 33; refine (isLength_yes _ rfl _).mono ?_)); rintro e w' ⟨rfl, rfl⟩) | (go_at_call 35; refine (extend4 _ (by omega) (by omega) _).mono ?_; rintro e w' ⟨rfl, rfl⟩))
  go_ret2
  exact ⟨ret2_eq (by first | omega | (simp only [IntKind.wrap_u64]; omega) | (simp only [IntKind.wrap_u64])), rfl⟩
theorem unsigned4_neg (v : Int) (h0 : -9223372036854775808 ≤ v) (h1 : v < 0) (w : World) :
    Calls Try.prog 17 #[.int .i64 v, .int .i64 4] w fun e w' => e = .returned (.tuple #[.int .u64 (v % 18446744073709551616), .int .i64 0]) ∧ w = w' := by
  have hu : 0 ≤ IntKind.u64.wrap v ∧ IntKind.u64.wrap v ≤ 18446744073709551615 := by rw [IntKind.wrap_u64]; omega
  obtain ⟨u0, u1⟩ := hu
  have e1 : (sgm 18446744073709551616 (IntKind.u64.wrap v % 18446744073709551616) != v) = false := by
    have : sgm 18446744073709551616 (IntKind.u64.wrap v % 18446744073709551616) = v := by rw [IntKind.wrap_u64]; unfold sgm; split <;> omega
    simpa using this
  go_enter Try.func17, Try.ntmps17
  go_wp2_with (first | ((with_reducible (go_at_call 33; refine (isLength_yes _ rfl _).mono ?_)); rintro e w' ⟨rfl, rfl⟩) | (go_at_call 35; refine (extend4 _ (by omega) (by omega) _).mono ?_; rintro e w' ⟨rfl, rfl⟩))
  go_ret2
  exact ⟨ret2_eq (by first | (simp only [IntKind.wrap_u64]; done) | (simp only [IntKind.wrap_u64]; omega)), rfl⟩
theorem runsigned4_pos (v : Int) (h0 : 0 ≤ v) (h1 : v < 9223372036854775808) (w : World) :
    Calls Try.prog 18 #[.int .i64 v, .int .i64 4] w fun e w' => e = .returned (.tuple #[.int .u64 (v % 18446744073709551616), .int .i64 0]) ∧ w = w' := by
  have d1 : decide (9223372036854775807 < v) = false := decide_eq_false (by omega)
  have d2 : decide (v < -9223372036854775808) = false := decide_eq_false (by omega)
  go_enter Try.func18, Try.ntmps18
  go_wp2_with (first | ((with_reducible (go_at_call 30; refine (may_yes _ rfl _).mono ?_)); rintro e w' ⟨rfl, rfl⟩) | ((with_reducible (go_at_call 36; refine (half4 _).mono ?_)); rintro e w' ⟨rfl, rfl⟩) )
  go_ret2
  exact ⟨ret2_eq (by first | omega | (simp only [IntKind.wrap_u64]; omega) | (simp only [IntKind.wrap_u64])), rfl⟩
theorem runsigned4_neg (v : Int) (h0 : -9223372036854775808 ≤ v) (h1 : v < 0) (w : World) :
    Calls Try.prog 18 #[.int .i64 v, .int .i64 4] w fun e w' => e = .returned (.tuple #[.int .u64 (v % 18446744073709551616), .int .i64 0]) ∧ w = w' := by
  have d1 : decide (9223372036854775807 < v) = false := decide_eq_false (by omega)
  have d2 : decide (v < -9223372036854775808) = false := decide_eq_false (by omega)
  have d3 : decide (0 ≤ v) = false := decide_eq_false (by omega)
  go_enter Try.func18, Try.ntmps18
  go_wp2_with (first | ((with_reducible (go_at_call 30; refine (may_yes _ rfl _).mono ?_)); rintro e w' ⟨rfl, rfl⟩) | ((with_reducible (go_at_call 36; refine (half4 _).mono ?_)); rintro e w' ⟨rfl, rfl⟩) )
  go_ret2
  exact ⟨ret2_eq (by first | omega | (simp only [IntKind.wrap_u64]; omega) | (simp only [IntKind.wrap_u64])), rfl⟩
theorem signeds (v m : Int) (h0 : 0 ≤ v) (h1 : v ≤ 18446744073709551615) : ∃ x y : Int, (∀ w : World, Calls Try.prog 15 #[.int .u64 v, .int .i64 m] w fun e w' => e = .returned (.tuple #[.int .i64 x, .int .i64 y]) ∧ w = w') ∧ (∀ w : World, Calls Try.prog 16 #[.int .u64 v, .int .i64 m] w fun e w' => e = .returned (.tuple #[.int .i64 x, .int .i64 y]) ∧ w = w') := by
  by_cases hm : lenB m = true
  · rcases len_yes hm with rfl | rfl | rfl
    · rcases Int.lt_or_le v 65536 with h | h
      · exact ⟨_, _, signed1_yes v h0 h, rsigned1_yes v h0 h⟩
      · exact ⟨_, _, signed1_no v h0 h, rsigned1_no v h0 h⟩
    · rcases Int.lt_or_le v 4294967296 with h | h
      · exact ⟨_, _, signed2_yes v h0 h, rsigned2_yes v h0 h⟩
      · exact ⟨_, _, signed2_no v h0 h, rsigned2_no v h0 h⟩
    · exact ⟨_, _, signed4_yes v h0 (by omega), rsigned4_yes v h0 (by omega)⟩
  · have hm' : lenB m = false := by simpa using hm
    exact ⟨_, _, signed_len v m hm', rsigned_len v m hm'⟩
theorem unsigneds (v m : Int) (h0 : -9223372036854775808 ≤ v) (h1 : v ≤ 9223372036854775807) : ∃ x y : Int, (∀ w : World, Calls Try.prog 17 #[.int .i64 v, .int .i64 m] w fun e w' => e = .returned (.tuple #[.int .u64 x, .int .i64 y]) ∧ w = w') ∧ (∀ w : World, Calls Try.prog 18 #[.int .i64 v, .int .i64 m] w fun e w' => e = .returned (.tuple #[.int .u64 x, .int .i64 y]) ∧ w = w') := by
  by_cases hm : lenB m = true
  · rcases len_yes hm with rfl | rfl | rfl
    · rcases Int.lt_or_le v (-32768) with h | h
      · exact ⟨_, _, unsigned1_lo v h0 h, runsigned1_lo v h0 h⟩
      · rcases Int.lt_or_le v 0 with h' | h'
        · exact ⟨_, _, unsigned1_neg v h h', runsigned1_neg v h h'⟩
        · rcases Int.lt_or_le v 32768 with h'' | h''
          · exact ⟨_, _, unsigned1_pos v h' h'', runsigned1_pos v h' h''⟩
          · exact ⟨_, _, unsigned1_hi v h'' h1, runsigned1_hi v h'' h1⟩
    · rcases Int.lt_or_le v (-2147483648) with h | h
      · exact ⟨_, _, unsigned2_lo v h0 h, runsigned2_lo v h0 h⟩
      · rcases Int.lt_or_le v 0 with h' | h'
        · exact ⟨_, _, unsigned2_neg v h h', runsigned2_neg v h h'⟩
        · rcases Int.lt_or_le v 2147483648 with h'' | h''
          · exact ⟨_, _, unsigned2_pos v h' h'', runsigned2_pos v h' h''⟩
          · exact ⟨_, _, unsigned2_hi v h'' h1, runsigned2_hi v h'' h1⟩
    · rcases Int.lt_or_le v 0 with h' | h'
      · exact ⟨_, _, unsigned4_neg v h0 h', runsigned4_neg v h0 h'⟩
      · exact ⟨_, _, unsigned4_pos v h' (by omega), runsigned4_pos v h' (by omega)⟩
  · have hm' : lenB m = false := by simpa using hm
    exact ⟨_, _, unsigned_len v m hm', runsigned_len v m hm'⟩
set_option maxHeartbeats 1000000 in
theorem signsLaw_any (v n m : Int) (h0 : 0 ≤ v) (h1 : v ≤ 18446744073709551615) (h2 : -9223372036854775808 ≤ n) (h3 : n ≤ 9223372036854775807) (w : World) :
    Calls Try.prog 4 #[.int .u64 v, .int .i64 n, .int .i64 m] w fun e w' => e = .returned (.bool true) ∧ w = w' := by
  obtain ⟨a, b, ha, hb⟩ := signeds v m h0 h1
  obtain ⟨c, d, hc, hd⟩ := unsigneds n m h2 h3
  have HA := Lib.hid ha
  have HB := Lib.hid hb
  have HC := Lib.hid hc
  have HD := Lib.hid hd
  clear ha hb hc hd
  go_enter Try.func4, Try.ntmps4
  go_wp2_with (first | (go_at_call 15; refine (HA.out _).mono ?_; rintro e w' ⟨rfl, rfl⟩) | (go_at_call 16; refine (HB.out _).mono ?_; rintro e w' ⟨rfl, rfl⟩) | (go_at_call 17; refine (HC.out _).mono ?_; rintro e w' ⟨rfl, rfl⟩) | (go_at_call 18; refine (HD.out _).mono ?_; rintro e w' ⟨rfl, rfl⟩))
  go_ret
  exact ⟨rfl, rfl⟩
end Go.Proofs.Ytnomnigpcpfgiaa
