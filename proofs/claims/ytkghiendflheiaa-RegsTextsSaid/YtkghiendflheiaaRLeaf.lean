/- Contracts of the small functions of package regs and of the document's: isLength, fits, isOrder, extend, May, Fits, half. -/
import Derived.Test.YtkghiendflheiaaProg
import Derived.WalkKit
import Derived.WalkLawsBesides
import Derived.Lib.Hide
import Derived.Test.YtkghiendflheiaaRMath
set_option linter.unusedVariables false
namespace Go.Proofs.Ytkghiendflheiaa
open Go.RowKit
def lenB (m : Int) : Bool := m == 1 || m == 2 || m == 4
theorem len_no {m : Int} (h : lenB m = false) : (m == 1) = false ∧ (m == 2) = false ∧ (m == 4) = false := by
  simp [lenB] at h ⊢; exact ⟨h.1.1, h.1.2, h.2⟩
theorem len_yes {m : Int} (h : lenB m = true) : m = 1 ∨ m = 2 ∨ m = 4 := by
  simp [lenB] at h; omega
theorem isLength_no (m : Int) (h : lenB m = false) (w : World) :
    Calls Try.prog 26 #[.int .i64 m] w fun e w' => e = .returned (.bool false) ∧ w = w' := by
  obtain ⟨h1, h2, h3⟩ := len_no h
  clear h
  go_enter Try.func26, Try.ntmps26
  go_wp2
  go_ret
  exact ⟨rfl, rfl⟩
theorem isLength_yes (m : Int) (h : lenB m = true) (w : World) :
    Calls Try.prog 26 #[.int .i64 m] w fun e w' => e = .returned (.bool true) ∧ w = w' := by
  rcases len_yes h with rfl | rfl | rfl
  all_goals
    clear h
    go_enter Try.func26, Try.ntmps26
    go_wp2
    go_ret
    exact ⟨rfl, rfl⟩
theorem ext1 (v : Int) (h0 : 0 ≤ v) (h1 : v ≤ 18446744073709551615) : wrap64 (IntKind.u64.wrap (v * 281474976710656)) / 281474976710656 = sgm 65536 (v % 65536) := by
  simp only [wrap64, IntKind.wrap_u64, sgm]; split <;> omega
theorem extend1 (v : Int) (h0 : 0 ≤ v) (h1 : v ≤ 18446744073709551615) (w : World) :
    Calls Try.prog 28 #[.int .u64 v, .int .i64 1] w fun e w' => e = .returned (.int .i64 (sgm 65536 (v % 65536))) ∧ w = w' := by
  go_enter Try.func28, Try.ntmps28
  go_wp2
  go_ret
  refine ⟨congrArg Ending.returned (congrArg (Value.int IntKind.i64) ?_), rfl⟩
  exact ext1 v h0 h1
theorem fits1_yes (v : Int) (h0 : 0 ≤ v) (h1 : v < 65536) (w : World) :
    Calls Try.prog 22 #[.int .u64 v, .int .i64 1] w fun e w' => e = .returned (.bool true) ∧ w = w' := by
  have hd : (v / 65536 == 0) = true := by simp; omega
  go_enter Try.func22, Try.ntmps22
  go_wp2_with (go_at_call 26; refine (isLength_yes _ rfl _).mono ?_; rintro e w' ⟨rfl, rfl⟩)
  go_ret
  exact ⟨rfl, rfl⟩
theorem fits1_no (v : Int) (h0 : 0 ≤ v) (h1 : 65536 ≤ v) (w : World) :
    Calls Try.prog 22 #[.int .u64 v, .int .i64 1] w fun e w' => e = .returned (.bool false) ∧ w = w' := by
  have hd : (v / 65536 == 0) = false := by simp; omega
  go_enter Try.func22, Try.ntmps22
  go_wp2_with (go_at_call 26; refine (isLength_yes _ rfl _).mono ?_; rintro e w' ⟨rfl, rfl⟩)
  go_ret
  exact ⟨rfl, rfl⟩
theorem ext2 (v : Int) (h0 : 0 ≤ v) (h1 : v ≤ 18446744073709551615) : wrap64 (IntKind.u64.wrap (v * 4294967296)) / 4294967296 = sgm 4294967296 (v % 4294967296) := by
  simp only [wrap64, IntKind.wrap_u64, sgm]; split <;> omega
theorem extend2 (v : Int) (h0 : 0 ≤ v) (h1 : v ≤ 18446744073709551615) (w : World) :
    Calls Try.prog 28 #[.int .u64 v, .int .i64 2] w fun e w' => e = .returned (.int .i64 (sgm 4294967296 (v % 4294967296))) ∧ w = w' := by
  go_enter Try.func28, Try.ntmps28
  go_wp2
  go_ret
  refine ⟨congrArg Ending.returned (congrArg (Value.int IntKind.i64) ?_), rfl⟩
  exact ext2 v h0 h1
theorem fits2_yes (v : Int) (h0 : 0 ≤ v) (h1 : v < 4294967296) (w : World) :
    Calls Try.prog 22 #[.int .u64 v, .int .i64 2] w fun e w' => e = .returned (.bool true) ∧ w = w' := by
  have hd : (v / 4294967296 == 0) = true := by simp; omega
  go_enter Try.func22, Try.ntmps22
  go_wp2_with (go_at_call 26; refine (isLength_yes _ rfl _).mono ?_; rintro e w' ⟨rfl, rfl⟩)
  go_ret
  exact ⟨rfl, rfl⟩
theorem fits2_no (v : Int) (h0 : 0 ≤ v) (h1 : 4294967296 ≤ v) (w : World) :
    Calls Try.prog 22 #[.int .u64 v, .int .i64 2] w fun e w' => e = .returned (.bool false) ∧ w = w' := by
  have hd : (v / 4294967296 == 0) = false := by simp; omega
  go_enter Try.func22, Try.ntmps22
  go_wp2_with (go_at_call 26; refine (isLength_yes _ rfl _).mono ?_; rintro e w' ⟨rfl, rfl⟩)
  go_ret
  exact ⟨rfl, rfl⟩
theorem ext4 (v : Int) (h0 : 0 ≤ v) (h1 : v ≤ 18446744073709551615) : wrap64 v = sgm 18446744073709551616 (v % 18446744073709551616) := by
  simp only [wrap64, sgm]; split <;> omega
theorem extend4 (v : Int) (h0 : 0 ≤ v) (h1 : v ≤ 18446744073709551615) (w : World) :
    Calls Try.prog 28 #[.int .u64 v, .int .i64 4] w fun e w' => e = .returned (.int .i64 (sgm 18446744073709551616 (v % 18446744073709551616))) ∧ w = w' := by
  go_enter Try.func28, Try.ntmps28
  go_wp2
  go_ret
  refine ⟨congrArg Ending.returned (congrArg (Value.int IntKind.i64) ?_), rfl⟩
  exact ext4 v h0 h1
theorem fits4_yes (v : Int) (h0 : 0 ≤ v) (h1 : v < 18446744073709551616) (w : World) :
    Calls Try.prog 22 #[.int .u64 v, .int .i64 4] w fun e w' => e = .returned (.bool true) ∧ w = w' := by
  have hd : (v / 18446744073709551616 == 0) = true := by simp; omega
  go_enter Try.func22, Try.ntmps22
  go_wp2_with (go_at_call 26; refine (isLength_yes _ rfl _).mono ?_; rintro e w' ⟨rfl, rfl⟩)
  go_ret
  exact ⟨rfl, rfl⟩
theorem fits_len_no (v m : Int) (h : lenB m = false) (w : World) :
    Calls Try.prog 22 #[.int .u64 v, .int .i64 m] w fun e w' => e = .returned (.bool false) ∧ w = w' := by
  go_enter Try.func22, Try.ntmps22
  go_wp2_with (go_at_call 26; refine (isLength_no _ h _).mono ?_; rintro e w' ⟨rfl, rfl⟩)
  go_ret
  exact ⟨rfl, rfl⟩
end Go.Proofs.Ytkghiendflheiaa
