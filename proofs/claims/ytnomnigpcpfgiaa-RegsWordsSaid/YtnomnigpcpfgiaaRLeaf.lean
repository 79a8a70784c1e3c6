/- Contracts of the small functions of package regs and of the document's: isLength, fits, isOrder, extend, May, Fits, half. -/
import Derived.Test.YtnomnigpcpfgiaaProg
import Derived.WalkKit
import Derived.WalkLawsBesides
import Derived.Lib.Hide
import Derived.Test.YtnomnigpcpfgiaaRMath
set_option linter.unusedVariables false
namespace Go.Proofs.Ytnomnigpcpfgiaa
open Go.RowKit
def lenB (m : Int) : Bool := m == 1 || m == 2 || m == 4
theorem len_no {m : Int} (h : lenB m = false) : (m == 1) = false ∧ (m == 2) = false ∧ (m == 4) = false := by
  simp [lenB] at h ⊢; exact ⟨h.1.1, h.1.2, h.2⟩
theorem len_yes {m : Int} (h : lenB m = true) : m = 1 ∨ m = 2 ∨ m = 4 := by
  simp [lenB] at h; omega
theorem isLength_no (m : Int) (h : lenB m = false) (w : World) :
    Calls Try.prog 33 #[.int .i64 m] w fun e w' => e = .returned (.bool false) ∧ w = w' := by
  obtain ⟨h1, h2, h3⟩ := len_no h
  clear h
  go_enter Try.func33, Try.ntmps33
  go_wp2
  go_ret
  exact ⟨rfl, rfl⟩
theorem may_no (m : Int) (h : lenB m = false) (w : World) :
    Calls Try.prog 30 #[.int .i64 m] w fun e w' => e = .returned (.bool false) ∧ w = w' := by
  obtain ⟨h1, h2, h3⟩ := len_no h
  clear h
  go_enter Try.func30, Try.ntmps30
  go_wp2
  go_ret
  exact ⟨rfl, rfl⟩
theorem isLength_yes (m : Int) (h : lenB m = true) (w : World) :
    Calls Try.prog 33 #[.int .i64 m] w fun e w' => e = .returned (.bool true) ∧ w = w' := by
  rcases len_yes h with rfl | rfl | rfl
  all_goals
    clear h
    go_enter Try.func33, Try.ntmps33
    go_wp2
    go_ret
    exact ⟨rfl, rfl⟩
theorem may_yes (m : Int) (h : lenB m = true) (w : World) :
    Calls Try.prog 30 #[.int .i64 m] w fun e w' => e = .returned (.bool true) ∧ w = w' := by
  rcases len_yes h with rfl | rfl | rfl
  all_goals
    clear h
    go_enter Try.func30, Try.ntmps30
    go_wp2
    go_ret
    exact ⟨rfl, rfl⟩
theorem ext1 (v : Int) (h0 : 0 ≤ v) (h1 : v ≤ 18446744073709551615) : wrap64 (IntKind.u64.wrap (v * 281474976710656)) / 281474976710656 = sgm 65536 (v % 65536) := by
  simp only [wrap64, IntKind.wrap_u64, sgm]; split <;> omega
theorem extend1 (v : Int) (h0 : 0 ≤ v) (h1 : v ≤ 18446744073709551615) (w : World) :
    Calls Try.prog 35 #[.int .u64 v, .int .i64 1] w fun e w' => e = .returned (.int .i64 (sgm 65536 (v % 65536))) ∧ w = w' := by
  go_enter Try.func35, Try.ntmps35
  go_wp2
  go_ret
  refine ⟨congrArg Ending.returned (congrArg (Value.int IntKind.i64) ?_), rfl⟩
  exact ext1 v h0 h1
theorem fits1_yes (v : Int) (h0 : 0 ≤ v) (h1 : v < 65536) (w : World) :
    Calls Try.prog 26 #[.int .u64 v, .int .i64 1] w fun e w' => e = .returned (.bool true) ∧ w = w' := by
  have hd : (v / 65536 == 0) = true := by simp; omega
  go_enter Try.func26, Try.ntmps26
  go_wp2_with (go_at_call 33; refine (isLength_yes _ rfl _).mono ?_; rintro e w' ⟨rfl, rfl⟩)
  go_ret
  exact ⟨rfl, rfl⟩
theorem rfits1_yes (v : Int) (h0 : 0 ≤ v) (h1 : v < 65536) (w : World) :
    Calls Try.prog 31 #[.int .u64 v, .int .i64 1] w fun e w' => e = .returned (.bool true) ∧ w = w' := by
  go_enter Try.func31, Try.ntmps31
  go_wp2
  go_ret
  exact ⟨rfl, rfl⟩
theorem fits1_no (v : Int) (h0 : 0 ≤ v) (h1 : 65536 ≤ v) (w : World) :
    Calls Try.prog 26 #[.int .u64 v, .int .i64 1] w fun e w' => e = .returned (.bool false) ∧ w = w' := by
  have hd : (v / 65536 == 0) = false := by simp; omega
  go_enter Try.func26, Try.ntmps26
  go_wp2_with (go_at_call 33; refine (isLength_yes _ rfl _).mono ?_; rintro e w' ⟨rfl, rfl⟩)
  go_ret
  exact ⟨rfl, rfl⟩
theorem rfits1_no (v : Int) (h0 : 0 ≤ v) (h1 : 65536 ≤ v) (w : World) :
    Calls Try.prog 31 #[.int .u64 v, .int .i64 1] w fun e w' => e = .returned (.bool false) ∧ w = w' := by
  have hd : decide (v < 65536) = false := by simp; omega
  go_enter Try.func31, Try.ntmps31
  go_wp2
  go_ret
  exact ⟨rfl, rfl⟩
theorem ext2 (v : Int) (h0 : 0 ≤ v) (h1 : v ≤ 18446744073709551615) : wrap64 (IntKind.u64.wrap (v * 4294967296)) / 4294967296 = sgm 4294967296 (v % 4294967296) := by
  simp only [wrap64, IntKind.wrap_u64, sgm]; split <;> omega
theorem extend2 (v : Int) (h0 : 0 ≤ v) (h1 : v ≤ 18446744073709551615) (w : World) :
    Calls Try.prog 35 #[.int .u64 v, .int .i64 2] w fun e w' => e = .returned (.int .i64 (sgm 4294967296 (v % 4294967296))) ∧ w = w' := by
  go_enter Try.func35, Try.ntmps35
  go_wp2
  go_ret
  refine ⟨congrArg Ending.returned (congrArg (Value.int IntKind.i64) ?_), rfl⟩
  exact ext2 v h0 h1
theorem fits2_yes (v : Int) (h0 : 0 ≤ v) (h1 : v < 4294967296) (w : World) :
    Calls Try.prog 26 #[.int .u64 v, .int .i64 2] w fun e w' => e = .returned (.bool true) ∧ w = w' := by
  have hd : (v / 4294967296 == 0) = true := by simp; omega
  go_enter Try.func26, Try.ntmps26
  go_wp2_with (go_at_call 33; refine (isLength_yes _ rfl _).mono ?_; rintro e w' ⟨rfl, rfl⟩)
  go_ret
  exact ⟨rfl, rfl⟩
theorem rfits2_yes (v : Int) (h0 : 0 ≤ v) (h1 : v < 4294967296) (w : World) :
    Calls Try.prog 31 #[.int .u64 v, .int .i64 2] w fun e w' => e = .returned (.bool true) ∧ w = w' := by
  go_enter Try.func31, Try.ntmps31
  go_wp2
  go_ret
  exact ⟨rfl, rfl⟩
theorem fits2_no (v : Int) (h0 : 0 ≤ v) (h1 : 4294967296 ≤ v) (w : World) :
    Calls Try.prog 26 #[.int .u64 v, .int .i64 2] w fun e w' => e = .returned (.bool false) ∧ w = w' := by
  have hd : (v / 4294967296 == 0) = false := by simp; omega
  go_enter Try.func26, Try.ntmps26
  go_wp2_with (go_at_call 33; refine (isLength_yes _ rfl _).mono ?_; rintro e w' ⟨rfl, rfl⟩)
  go_ret
  exact ⟨rfl, rfl⟩
theorem rfits2_no (v : Int) (h0 : 0 ≤ v) (h1 : 4294967296 ≤ v) (w : World) :
    Calls Try.prog 31 #[.int .u64 v, .int .i64 2] w fun e w' => e = .returned (.bool false) ∧ w = w' := by
  have hd : decide (v < 4294967296) = false := by simp; omega
  go_enter Try.func31, Try.ntmps31
  go_wp2
  go_ret
  exact ⟨rfl, rfl⟩
theorem ext4 (v : Int) (h0 : 0 ≤ v) (h1 : v ≤ 18446744073709551615) : wrap64 v = sgm 18446744073709551616 (v % 18446744073709551616) := by
  simp only [wrap64, sgm]; split <;> omega
theorem extend4 (v : Int) (h0 : 0 ≤ v) (h1 : v ≤ 18446744073709551615) (w : World) :
    Calls Try.prog 35 #[.int .u64 v, .int .i64 4] w fun e w' => e = .returned (.int .i64 (sgm 18446744073709551616 (v % 18446744073709551616))) ∧ w = w' := by
  go_enter Try.func35, Try.ntmps35
  go_wp2
  go_ret
  refine ⟨congrArg Ending.returned (congrArg (Value.int IntKind.i64) ?_), rfl⟩
  exact ext4 v h0 h1
theorem fits4_yes (v : Int) (h0 : 0 ≤ v) (h1 : v < 18446744073709551616) (w : World) :
    Calls Try.prog 26 #[.int .u64 v, .int .i64 4] w fun e w' => e = .returned (.bool true) ∧ w = w' := by
  have hd : (v / 18446744073709551616 == 0) = true := by simp; omega
  go_enter Try.func26, Try.ntmps26
  go_wp2_with (go_at_call 33; refine (isLength_yes _ rfl _).mono ?_; rintro e w' ⟨rfl, rfl⟩)
  go_ret
  exact ⟨rfl, rfl⟩
theorem rfits4_yes (v : Int) (h0 : 0 ≤ v) (h1 : v < 18446744073709551616) (w : World) :
    Calls Try.prog 31 #[.int .u64 v, .int .i64 4] w fun e w' => e = .returned (.bool true) ∧ w = w' := by
  go_enter Try.func31, Try.ntmps31
  go_wp2
  go_ret
  exact ⟨rfl, rfl⟩
theorem fits_len_no (v m : Int) (h : lenB m = false) (w : World) :
    Calls Try.prog 26 #[.int .u64 v, .int .i64 m] w fun e w' => e = .returned (.bool false) ∧ w = w' := by
  go_enter Try.func26, Try.ntmps26
  go_wp2_with (go_at_call 33; refine (isLength_no _ h _).mono ?_; rintro e w' ⟨rfl, rfl⟩)
  go_ret
  exact ⟨rfl, rfl⟩
theorem half1 (w : World) :
    Calls Try.prog 36 #[.int .i64 1] w fun e w' => e = .returned (.int .u64 32768) ∧ w = w' := by
  go_enter Try.func36, Try.ntmps36
  go_wp2
  go_loop [3, 4] (fun n i => ∃ k : Nat, 1 ≤ k ∧ k ≤ 16 ∧ i = .int .i64 k ∧ n = .int .u64 (p2 k)) (fun _ i => 16 - (intOf i).toNat)
  case atStart => exact ⟨1, by omega, by omega, rfl, rfl⟩
  case round =>
    obtain ⟨k, hk0, hk, rfl, rfl⟩ := hrel
    by_cases hlt : k < 16
    · have hb := p2_bd k (by omega)
      have HS := Lib.hid (p2_succ k hk0)
      go_wp2
      go_round
      case rel => exact ⟨k + 1, by omega, by omega, by go_num, by rw [HS.out]⟩
      case measure => simp [intOf]; omega
    · obtain rfl : k = 16 := by omega
      go_wp2
      go_ret
      exact ⟨rfl, rfl⟩
theorem half2 (w : World) :
    Calls Try.prog 36 #[.int .i64 2] w fun e w' => e = .returned (.int .u64 2147483648) ∧ w = w' := by
  go_enter Try.func36, Try.ntmps36
  go_wp2
  go_loop [3, 4] (fun n i => ∃ k : Nat, 1 ≤ k ∧ k ≤ 32 ∧ i = .int .i64 k ∧ n = .int .u64 (p2 k)) (fun _ i => 32 - (intOf i).toNat)
  case atStart => exact ⟨1, by omega, by omega, rfl, rfl⟩
  case round =>
    obtain ⟨k, hk0, hk, rfl, rfl⟩ := hrel
    by_cases hlt : k < 32
    · have hb := p2_bd k (by omega)
      have HS := Lib.hid (p2_succ k hk0)
      go_wp2
      go_round
      case rel => exact ⟨k + 1, by omega, by omega, by go_num, by rw [HS.out]⟩
      case measure => simp [intOf]; omega
    · obtain rfl : k = 32 := by omega
      go_wp2
      go_ret
      exact ⟨rfl, rfl⟩
theorem half4 (w : World) :
    Calls Try.prog 36 #[.int .i64 4] w fun e w' => e = .returned (.int .u64 9223372036854775808) ∧ w = w' := by
  go_enter Try.func36, Try.ntmps36
  go_wp2
  go_loop [3, 4] (fun n i => ∃ k : Nat, 1 ≤ k ∧ k ≤ 64 ∧ i = .int .i64 k ∧ n = .int .u64 (p2 k)) (fun _ i => 64 - (intOf i).toNat)
  case atStart => exact ⟨1, by omega, by omega, rfl, rfl⟩
  case round =>
    obtain ⟨k, hk0, hk, rfl, rfl⟩ := hrel
    by_cases hlt : k < 64
    · have hb := p2_bd k (by omega)
      have HS := Lib.hid (p2_succ k hk0)
      go_wp2
      go_round
      case rel => exact ⟨k + 1, by omega, by omega, by go_num, by rw [HS.out]⟩
      case measure => simp [intOf]; omega
    · obtain rfl : k = 64 := by omega
      go_wp2
      go_ret
      exact ⟨rfl, rfl⟩
end Go.Proofs.Ytnomnigpcpfgiaa
