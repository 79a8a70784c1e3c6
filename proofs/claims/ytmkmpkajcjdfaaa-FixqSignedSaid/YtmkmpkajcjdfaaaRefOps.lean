/- The contracts of the document's Add, Sub and Mul of two numbers of int64. -/
import Derived.Test.YtmkmpkajcjdfaaaLess
import Derived.Test.YtmkmpkajcjdfaaaTimes
import Derived.Test.YtmkmpkajcjdfaaaInt
set_option linter.unusedVariables false
namespace Go.Proofs.Ytmkmpkajcjdfaaa
open Go.RowKit
set_option maxHeartbeats 1000000 in
theorem radd_any (a b : Int) (ha1 : -9223372036854775808 ≤ a) (ha2 : a ≤ 9223372036854775807) (hb1 : -9223372036854775808 ≤ b) (hb2 : b ≤ 9223372036854775807) (w : World) :
    Calls Try.prog 8 #[.int .i64 a, .int .i64 b] w fun e w' => e = .returned (.tuple #[.int .i64 (tv (a + b)), .int .i64 (te (a + b))]) ∧ Below w.heap.size w w' := by
  have hv : (a + b).natAbs < 2 ^ 200 := by omega
  have HV := Lib.hid hv
  clear hv
  go_enter Try.func8, Try.ntmps8
  go_wp2_with fail
  refine (signed_any a ha1 ha2 _).mono ?_
  rintro e w1 ⟨rfl, hB1⟩
  go_wp2_with fail
  refine (signed_any b hb1 hb2 _).mono ?_
  rintro e w2 ⟨rfl, hB2⟩
  go_wp2_with fail
  refine (rsum_any a b (by omega) w2).mono ?_
  rintro e w3 ⟨rfl, hB3⟩
  go_wp2_with fail
  refine (told_any (a + b) HV.out w3).mono ?_
  rintro e w4 ⟨rfl, hB4⟩
  go_wp2
  go_ret2
  have s1 := hB1.size
  have s2 := hB2.size
  have s3 := hB3.size
  exact ⟨rfl, ((hB1.trans (hB2.mono s1)).trans (hB3.mono (by omega))).trans (hB4.mono (by omega))⟩
set_option maxHeartbeats 1000000 in
theorem rsub_any (a b : Int) (ha1 : -9223372036854775808 ≤ a) (ha2 : a ≤ 9223372036854775807) (hb1 : -9223372036854775808 ≤ b) (hb2 : b ≤ 9223372036854775807) (w : World) :
    Calls Try.prog 10 #[.int .i64 a, .int .i64 b] w fun e w' => e = .returned (.tuple #[.int .i64 (tv (a - b)), .int .i64 (te (a - b))]) ∧ Below w.heap.size w w' := by
  have hv : (a - b).natAbs < 2 ^ 200 := by omega
  have HV := Lib.hid hv
  clear hv
  go_enter Try.func10, Try.ntmps10
  go_wp2_with fail
  refine (signed_any a ha1 ha2 _).mono ?_
  rintro e w1 ⟨rfl, hB1⟩
  go_wp2_with fail
  refine (signed_any b hb1 hb2 _).mono ?_
  rintro e w2 ⟨rfl, hB2⟩
  go_wp2_with fail
  refine (less_any a b (by omega) w2).mono ?_
  rintro e w3 ⟨rfl, hB3⟩
  go_wp2_with fail
  refine (told_any (a - b) HV.out w3).mono ?_
  rintro e w4 ⟨rfl, hB4⟩
  go_wp2
  go_ret2
  have s1 := hB1.size
  have s2 := hB2.size
  have s3 := hB3.size
  exact ⟨rfl, ((hB1.trans (hB2.mono s1)).trans (hB3.mono (by omega))).trans (hB4.mono (by omega))⟩
set_option maxHeartbeats 1000000 in
theorem rmul_any (a b : Int) (ha1 : -9223372036854775808 ≤ a) (ha2 : a ≤ 9223372036854775807) (hb1 : -9223372036854775808 ≤ b) (hb2 : b ≤ 9223372036854775807) (w : World) :
    Calls Try.prog 12 #[.int .i64 a, .int .i64 b] w fun e w' => e = .returned (.tuple #[.int .i64 (tv (a * b)), .int .i64 (te (a * b))]) ∧ Below w.heap.size w w' := by
  have hv : (a * b).natAbs < 2 ^ 200 := by 
    rw [Int.natAbs_mul]
    have := Nat.mul_le_mul (show a.natAbs ≤ 9223372036854775808 by omega) (show b.natAbs ≤ 9223372036854775808 by omega)
    omega
  have HV := Lib.hid hv
  clear hv
  go_enter Try.func12, Try.ntmps12
  go_wp2_with fail
  refine (signed_any a ha1 ha2 _).mono ?_
  rintro e w1 ⟨rfl, hB1⟩
  go_wp2_with fail
  refine (signed_any b hb1 hb2 _).mono ?_
  rintro e w2 ⟨rfl, hB2⟩
  go_wp2_with fail
  refine (times_any a b (by omega) (by omega) w2).mono ?_
  rintro e w3 ⟨rfl, hB3⟩
  go_wp2_with fail
  refine (told_any (a * b) HV.out w3).mono ?_
  rintro e w4 ⟨rfl, hB4⟩
  go_wp2
  go_ret2
  have s1 := hB1.size
  have s2 := hB2.size
  have s3 := hB3.size
  exact ⟨rfl, ((hB1.trans (hB2.mono s1)).trans (hB3.mono (by omega))).trans (hB4.mono (by omega))⟩
end Go.Proofs.Ytmkmpkajcjdfaaa
