/- Signed and Unsigned of package regs, the document's, and the walk of RegsSigns. -/
import Derived.Test.YtkghiendflheiaaRLeaf
set_option linter.unusedVariables false
namespace Go.Proofs.Ytkghiendflheiaa
open Go.RowKit
theorem signed_len (v m : Int) (h : lenB m = false) (w : World) :
    Calls Try.prog 15 #[.int .u64 v, .int .i64 m] w fun e w' => e = .returned (.tuple #[.int .i64 0, .int .i64 20]) ∧ w = w' := by
  go_enter Try.func15, Try.ntmps15
  go_wp2_with (first | ((with_reducible (go_at_call 22; refine (fits_len_no _ _ h _).mono ?_)); rintro e w' ⟨rfl, rfl⟩) )
  go_ret2
  exact ⟨rfl, rfl⟩
theorem unsigned_len (v m : Int) (h : lenB m = false) (w : World) :
    Calls Try.prog 16 #[.int .i64 v, .int .i64 m] w fun e w' => e = .returned (.tuple #[.int .u64 0, .int .i64 20]) ∧ w = w' := by
  go_enter Try.func16, Try.ntmps16
  go_wp2_with (first | ((with_reducible (go_at_call 26; refine (isLength_no _ h _).mono ?_)); rintro e w' ⟨rfl, rfl⟩) )
  go_ret2
  exact ⟨rfl, rfl⟩
theorem ret2_eq {k k' : IntKind} {a b : Int} {c : Int} (h : a = b) : Ending.returned (.tuple #[.int k a, .int k' c]) = .returned (.tuple #[.int k b, .int k' c]) := by rw [h]
theorem signed1_yes (v : Int) (h0 : 0 ≤ v) (h1 : v < 65536) (w : World) :
    Calls Try.prog 15 #[.int .u64 v, .int .i64 1] w fun e w' => e = .returned (.tuple #[.int .i64 (sgm 65536 v), .int .i64 0]) ∧ w = w' := by
  have HE : Hid (sgm 65536 (v % 65536) = sgm 65536 v) := by show sgm 65536 (v % 65536) = sgm 65536 v; rw [Int.emod_eq_of_lt h0 h1]
  have h2 : v ≤ 18446744073709551615 := by omega
  go_enter Try.func15, Try.ntmps15
  go_wp2_with (first | ((with_reducible (go_at_call 22; refine (fits1_yes _ h0 h1 _).mono ?_)); rintro e w' ⟨rfl, rfl⟩) | ((with_reducible (go_at_call 28; refine (extend1 _ h0 h2 _).mono ?_)); rintro e w' ⟨rfl, rfl⟩) )
  go_ret2
  exact ⟨ret2_eq HE.out, rfl⟩
theorem signed1_no (v : Int) (h0 : 0 ≤ v) (h1 : 65536 ≤ v) (w : World) :
    Calls Try.prog 15 #[.int .u64 v, .int .i64 1] w fun e w' => e = .returned (.tuple #[.int .i64 0, .int .i64 20]) ∧ w = w' := by
  go_enter Try.func15, Try.ntmps15
  go_wp2_with (first | ((with_reducible (go_at_call 22; refine (fits1_no _ h0 h1 _).mono ?_)); rintro e w' ⟨rfl, rfl⟩) )
  go_ret2
  exact ⟨rfl, rfl⟩
theorem signed2_yes (v : Int) (h0 : 0 ≤ v) (h1 : v < 4294967296) (w : World) :
    Calls Try.prog 15 #[.int .u64 v, .int .i64 2] w fun e w' => e = .returned (.tuple #[.int .i64 (sgm 4294967296 v), .int .i64 0]) ∧ w = w' := by
  have HE : Hid (sgm 4294967296 (v % 4294967296) = sgm 4294967296 v) := by show sgm 4294967296 (v % 4294967296) = sgm 4294967296 v; rw [Int.emod_eq_of_lt h0 h1]
  have h2 : v ≤ 18446744073709551615 := by omega
  go_enter Try.func15, Try.ntmps15
  go_wp2_with (first | ((with_reducible (go_at_call 22; refine (fits2_yes _ h0 h1 _).mono ?_)); rintro e w' ⟨rfl, rfl⟩) | ((with_reducible (go_at_call 28; refine (extend2 _ h0 h2 _).mono ?_)); rintro e w' ⟨rfl, rfl⟩) )
  go_ret2
  exact ⟨ret2_eq HE.out, rfl⟩
theorem signed2_no (v : Int) (h0 : 0 ≤ v) (h1 : 4294967296 ≤ v) (w : World) :
    Calls Try.prog 15 #[.int .u64 v, .int .i64 2] w fun e w' => e = .returned (.tuple #[.int .i64 0, .int .i64 20]) ∧ w = w' := by
  go_enter Try.func15, Try.ntmps15
  go_wp2_with (first | ((with_reducible (go_at_call 22; refine (fits2_no _ h0 h1 _).mono ?_)); rintro e w' ⟨rfl, rfl⟩) )
  go_ret2
  exact ⟨rfl, rfl⟩
theorem signed4_yes (v : Int) (h0 : 0 ≤ v) (h1 : v < 18446744073709551616) (w : World) :
    Calls Try.prog 15 #[.int .u64 v, .int .i64 4] w fun e w' => e = .returned (.tuple #[.int .i64 (sgm 18446744073709551616 v), .int .i64 0]) ∧ w = w' := by
  have HE : Hid (sgm 18446744073709551616 (v % 18446744073709551616) = sgm 18446744073709551616 v) := by show sgm 18446744073709551616 (v % 18446744073709551616) = sgm 18446744073709551616 v; rw [Int.emod_eq_of_lt h0 h1]
  have h2 : v ≤ 18446744073709551615 := by omega
  go_enter Try.func15, Try.ntmps15
  go_wp2_with (first | ((with_reducible (go_at_call 22; refine (fits4_yes _ h0 h1 _).mono ?_)); rintro e w' ⟨rfl, rfl⟩) | ((with_reducible (go_at_call 28; refine (extend4 _ h0 h2 _).mono ?_)); rintro e w' ⟨rfl, rfl⟩) )
  go_ret2
  exact ⟨ret2_eq HE.out, rfl⟩
theorem unsigned1_pos (v : Int) (h0 : 0 ≤ v) (h1 : v < 32768) (w : World) :
    Calls Try.prog 16 #[.int .i64 v, .int .i64 1] w fun e w' => e = .returned (.tuple #[.int .u64 (v % 65536), .int .i64 0]) ∧ w = w' := by
  have e1 : (sgm 65536 (v % 65536) != v) = false := by
    have : sgm 65536 (v % 65536) = v := by unfold sgm; split <;> omega
    simpa using this
  go_enter Try.func16, Try.ntmps16
  go_wp2_with (first | ((with_reducible (go_at_call 26; refine (isLength_yes _ rfl _).mono ?_)); rintro e w' ⟨rfl, rfl⟩) | (go_at_call 28; refine (extend1 _ (by omega) (by omega) _).mono ?_; rintro e w' ⟨rfl, rfl⟩))
  go_ret2
  exact ⟨ret2_eq (by first | omega | (simp only [IntKind.wrap_u64]; omega) | (simp only [IntKind.wrap_u64])), rfl⟩
theorem unsigned1_neg (v : Int) (h0 : -32768 ≤ v) (h1 : v < 0) (w : World) :
    Calls Try.prog 16 #[.int .i64 v, .int .i64 1] w fun e w' => e = .returned (.tuple #[.int .u64 (v % 65536), .int .i64 0]) ∧ w = w' := by
  have hu : 0 ≤ IntKind.u64.wrap v ∧ IntKind.u64.wrap v ≤ 18446744073709551615 := by rw [IntKind.wrap_u64]; omega
  obtain ⟨u0, u1⟩ := hu
  have e1 : (sgm 65536 (IntKind.u64.wrap v % 65536) != v) = false := by
    have : sgm 65536 (IntKind.u64.wrap v % 65536) = v := by rw [IntKind.wrap_u64]; unfold sgm; split <;> omega
    simpa using this
  go_enter Try.func16, Try.ntmps16
  go_wp2_with (first | ((with_reducible (go_at_call 26; refine (isLength_yes _ rfl _).mono ?_)); rintro e w' ⟨rfl, rfl⟩) | (go_at_call 28; refine (extend1 _ (by omega) (by omega) _).mono ?_; rintro e w' ⟨rfl, rfl⟩))
  go_ret2
  exact ⟨ret2_eq (by first | (simp only [IntKind.wrap_u64]; done) | (simp only [IntKind.wrap_u64]; omega)), rfl⟩
theorem unsigned1_hi (v : Int) (h0 : 32768 ≤ v) (h1 : v ≤ 9223372036854775807) (w : World) :
    Calls Try.prog 16 #[.int .i64 v, .int .i64 1] w fun e w' => e = .returned (.tuple #[.int .u64 0, .int .i64 20]) ∧ w = w' := by
  have e1 : (sgm 65536 (v % 65536) != v) = true := by
    have : sgm 65536 (v % 65536) ≠ v := by unfold sgm; split <;> omega
    simpa using this
  go_enter Try.func16, Try.ntmps16
  go_wp2_with (first | ((with_reducible (go_at_call 26; refine (isLength_yes _ rfl _).mono ?_)); rintro e w' ⟨rfl, rfl⟩) | (go_at_call 28; refine (extend1 _ (by omega) (by omega) _).mono ?_; rintro e w' ⟨rfl, rfl⟩))
  go_ret2
  exact ⟨rfl, rfl⟩
theorem unsigned1_lo (v : Int) (h0 : -9223372036854775808 ≤ v) (h1 : v < -32768) (w : World) :
    Calls Try.prog 16 #[.int .i64 v, .int .i64 1] w fun e w' => e = .returned (.tuple #[.int .u64 0, .int .i64 20]) ∧ w = w' := by
  have hu : 0 ≤ IntKind.u64.wrap v ∧ IntKind.u64.wrap v ≤ 18446744073709551615 := by rw [IntKind.wrap_u64]; omega
  obtain ⟨u0, u1⟩ := hu
  have e1 : (sgm 65536 (IntKind.u64.wrap v % 65536) != v) = true := by
    have : sgm 65536 (IntKind.u64.wrap v % 65536) ≠ v := by rw [IntKind.wrap_u64]; unfold sgm; split <;> omega
    simpa using this
  go_enter Try.func16, Try.ntmps16
  go_wp2_with (first | ((with_reducible (go_at_call 26; refine (isLength_yes _ rfl _).mono ?_)); rintro e w' ⟨rfl, rfl⟩) | (go_at_call 28; refine (extend1 _ (by omega) (by omega) _).mono ?_; rintro e w' ⟨rfl, rfl⟩))
  go_ret2
  exact ⟨rfl, rfl⟩
theorem unsigned2_pos (v : Int) (h0 : 0 ≤ v) (h1 : v < 2147483648) (w : World) :
    Calls Try.prog 16 #[.int .i64 v, .int .i64 2] w fun e w' => e = .returned (.tuple #[.int .u64 (v % 4294967296), .int .i64 0]) ∧ w = w' := by
  have e1 : (sgm 4294967296 (v % 4294967296) != v) = false := by
    have : sgm 4294967296 (v % 4294967296) = v := by unfold sgm; split <;> omega
    simpa using this
  go_enter Try.func16, Try.ntmps16
  go_wp2_with (first | ((with_reducible (go_at_call 26; refine (isLength_yes _ rfl _).mono ?_)); rintro e w' ⟨rfl, rfl⟩) | (go_at_call 28; refine (extend2 _ (by omega) (by omega) _).mono ?_; rintro e w' ⟨rfl, rfl⟩))
  go_ret2
  exact ⟨ret2_eq (by first | omega | (simp only [IntKind.wrap_u64]; omega) | (simp only [IntKind.wrap_u64])), rfl⟩
theorem unsigned2_neg (v : Int) (h0 : -2147483648 ≤ v) (h1 : v < 0) (w : World) :
    Calls Try.prog 16 #[.int .i64 v, .int .i64 2] w fun e w' => e = .returned (.tuple #[.int .u64 (v % 4294967296), .int .i64 0]) ∧ w = w' := by
  have hu : 0 ≤ IntKind.u64.wrap v ∧ IntKind.u64.wrap v ≤ 18446744073709551615 := by rw [IntKind.wrap_u64]; omega
  obtain ⟨u0, u1⟩ := hu
  have e1 : (sgm 4294967296 (IntKind.u64.wrap v % 4294967296) != v) = false := by
    have : sgm 4294967296 (IntKind.u64.wrap v % 4294967296) = v := by rw [IntKind.wrap_u64]; unfold sgm; split <;> omega
    simpa using this
  go_enter Try.func16, Try.ntmps16
  go_wp2_with (first | ((with_reducible (go_at_call 26; refine (isLength_yes _ rfl _).mono ?_)); rintro e w' ⟨rfl, rfl⟩) | (go_at_call 28; refine (extend2 _ (by omega) (by omega) _).mono ?_; rintro e w' ⟨rfl, rfl⟩))
  go_ret2
  exact ⟨ret2_eq (by first | (simp only [IntKind.wrap_u64]; done) | (simp only [IntKind.wrap_u64]; omega)), rfl⟩
theorem unsigned2_hi (v : Int) (h0 : 2147483648 ≤ v) (h1 : v ≤ 9223372036854775807) (w : World) :
    Calls Try.prog 16 #[.int .i64 v, .int .i64 2] w fun e w' => e = .returned (.tuple #[.int .u64 0, .int .i64 20]) ∧ w = w' := by
  have e1 : (sgm 4294967296 (v % 4294967296) != v) = true := by
    have : sgm 4294967296 (v % 4294967296) ≠ v := by unfold sgm; split <;> omega
    simpa using this
  go_enter Try.func16, Try.ntmps16
  go_wp2_with (first | ((with_reducible (go_at_call 26; refine (isLength_yes _ rfl _).mono ?_)); rintro e w' ⟨rfl, rfl⟩) | (go_at_call 28; refine (extend2 _ (by omega) (by omega) _).mono ?_; rintro e w' ⟨rfl, rfl⟩))
  go_ret2
  exact ⟨rfl, rfl⟩
theorem unsigned2_lo (v : Int) (h0 : -9223372036854775808 ≤ v) (h1 : v < -2147483648) (w : World) :
    Calls Try.prog 16 #[.int .i64 v, .int .i64 2] w fun e w' => e = .returned (.tuple #[.int .u64 0, .int .i64 20]) ∧ w = w' := by
  have hu : 0 ≤ IntKind.u64.wrap v ∧ IntKind.u64.wrap v ≤ 18446744073709551615 := by rw [IntKind.wrap_u64]; omega
  obtain ⟨u0, u1⟩ := hu
  have e1 : (sgm 4294967296 (IntKind.u64.wrap v % 4294967296) != v) = true := by
    have : sgm 4294967296 (IntKind.u64.wrap v % 4294967296) ≠ v := by rw [IntKind.wrap_u64]; unfold sgm; split <;> omega
    simpa using this
  go_enter Try.func16, Try.ntmps16
  go_wp2_with (first | ((with_reducible (go_at_call 26; refine (isLength_yes _ rfl _).mono ?_)); rintro e w' ⟨rfl, rfl⟩) | (go_at_call 28; refine (extend2 _ (by omega) (by omega) _).mono ?_; rintro e w' ⟨rfl, rfl⟩))
  go_ret2
  exact ⟨rfl, rfl⟩
theorem unsigned4_pos (v : Int) (h0 : 0 ≤ v) (h1 : v < 9223372036854775808) (w : World) :
    Calls Try.prog 16 #[.int .i64 v, .int .i64 4] w fun e w' => e = .returned (.tuple #[.int .u64 (v % 18446744073709551616), .int .i64 0]) ∧ w = w' := by
  have e1 : (sgm 18446744073709551616 (v % 18446744073709551616) != v) = false := by
    have : sgm 18446744073709551616 (v % 18446744073709551616) = v := by unfold sgm; split <;> omega
    simpa using this
  go_enter Try.func16, Try.ntmps16
  go_wp2_with (first | ((with_reducible (go_at_call 26; refine (isLength_yes _ rfl _).mono ?_)); rintro e w' ⟨rfl, rfl⟩) | (go_at_call 28; refine (extend4 _ (by omega) (by omega) _).mono ?_; rintro e w' ⟨rfl, rfl⟩))
  go_ret2
  exact ⟨ret2_eq (by first | omega | (simp only [IntKind.wrap_u64]; omega) | (simp only [IntKind.wrap_u64])), rfl⟩
theorem unsigned4_neg (v : Int) (h0 : -9223372036854775808 ≤ v) (h1 : v < 0) (w : World) :
    Calls Try.prog 16 #[.int .i64 v, .int .i64 4] w fun e w' => e = .returned (.tuple #[.int .u64 (v % 18446744073709551616), .int .i64 0]) ∧ w = w' := by
  have hu : 0 ≤ IntKind.u64.wrap v ∧ IntKind.u64.wrap v ≤ 18446744073709551615 := by rw [IntKind.wrap_u64]; omega
  obtain ⟨u0, u1⟩ := hu
  have e1 : (sgm 18446744073709551616 (IntKind.u64.wrap v % 18446744073709551616) != v) = false := by
    have : sgm 18446744073709551616 (IntKind.u64.wrap v % 18446744073709551616) = v := by rw [IntKind.wrap_u64]; unfold sgm; split <;> omega
    simpa using this
  go_enter Try.func16, Try.ntmps16
  go_wp2_with (first | ((with_reducible (go_at_call 26; refine (isLength_yes _ rfl _).mono ?_)); rintro e w' ⟨rfl, rfl⟩) | (go_at_call 28; refine (extend4 _ (by omega) (by omega) _).mono ?_; rintro e w' ⟨rfl, rfl⟩))
  go_ret2
  exact ⟨ret2_eq (by first | (simp only [IntKind.wrap_u64]; done) | (simp only [IntKind.wrap_u64]; omega)), rfl⟩
end Go.Proofs.Ytkghiendflheiaa
