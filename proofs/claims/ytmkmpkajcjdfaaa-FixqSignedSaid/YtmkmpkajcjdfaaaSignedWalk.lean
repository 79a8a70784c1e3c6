/- The walk of the statement FixqSigned: whatever two numbers of int64, it answers true and writes nothing that was there. -/
import Derived.Test.YtmkmpkajcjdfaaaRefFloor
import Derived.Test.YtmkmpkajcjdfaaaRefOps
import Derived.Test.YtmkmpkajcjdfaaaMul
import Derived.Test.YtmkmpkajcjdfaaaFloor
set_option linter.unusedVariables false
namespace Go.Proofs.Ytmkmpkajcjdfaaa
open Go.RowKit
theorem floor_zero' (a : Int) (ha1 : -9223372036854775808 ≤ a) (ha2 : a ≤ 9223372036854775807) (w : World) :
    Calls Try.prog 13 #[.int .i64 a, .int .i64 0] w fun e w' => e = .returned (.tuple #[.int .i64 0, .int .i64 0, .int .i64 11]) ∧ ∃ n, w' = w.drewN n :=
  (floor_zero a ha1 ha2 w).mono fun _ _ ⟨h1, h2⟩ => ⟨h1, 0, h2 ▸ rfl⟩
theorem floor_over' (w : World) :
    Calls Try.prog 13 #[.int .i64 (-9223372036854775808), .int .i64 (-1)] w fun e w' => e = .returned (.tuple #[.int .i64 0, .int .i64 0, .int .i64 10]) ∧ ∃ n, w' = w.drewN n :=
  (floor_over w).mono fun _ _ ⟨h1, h2⟩ => ⟨h1, 0, h2 ▸ rfl⟩
/-- Both quotients are one: some three numbers that both answer. -/
theorem floors_alike (a b : Int) (ha1 : -9223372036854775808 ≤ a) (ha2 : a ≤ 9223372036854775807) (hb1 : -9223372036854775808 ≤ b) (hb2 : b ≤ 9223372036854775807) :
    ∃ x y z : Int, (∀ w : World, Calls Try.prog 13 #[.int .i64 a, .int .i64 b] w fun e w' => e = .returned (.tuple #[.int .i64 x, .int .i64 y, .int .i64 z]) ∧ ∃ n, w' = w.drewN n) ∧
      (∀ w : World, Calls Try.prog 14 #[.int .i64 a, .int .i64 b] w fun e w' => e = .returned (.tuple #[.int .i64 x, .int .i64 y, .int .i64 z]) ∧ Below w.heap.size w w') := by
  by_cases h0 : b = 0
  · subst h0
    exact ⟨_, _, _, fun w => floor_zero' a ha1 ha2 w, fun w => rfloor_zero a w⟩
  · by_cases hab : a = -9223372036854775808 ∧ b = -1
    · obtain ⟨rfl, rfl⟩ := hab
      exact ⟨_, _, _, floor_over', rfloor_least⟩
    · exact ⟨_, _, _, fun w => floor_any a b ha1 ha2 hb1 hb2 h0 hab w, fun w => rfloor_any a b ha1 ha2 hb1 hb2 h0 hab w⟩
set_option maxHeartbeats 1000000 in
theorem signedLaw_any (a b : Int) (ha1 : -9223372036854775808 ≤ a) (ha2 : a ≤ 9223372036854775807) (hb1 : -9223372036854775808 ≤ b) (hb2 : b ≤ 9223372036854775807) (w : World) :
    Calls Try.prog 3 #[.int .i64 a, .int .i64 b] w fun e w' => e = .returned (.bool true) ∧ Below w.heap.size w w' := by
  obtain ⟨x, y, z, hf, hg⟩ := floors_alike a b ha1 ha2 hb1 hb2
  have HF := Lib.hid hf
  have HG := Lib.hid hg
  clear hf hg
  have h1 := fun w => add_any a b ha1 ha2 hb1 hb2 w
  have h2 := fun w => radd_any a b ha1 ha2 hb1 hb2 w
  have h3 := fun w => sub_any a b ha1 ha2 hb1 hb2 w
  have h4 := fun w => rsub_any a b ha1 ha2 hb1 hb2 w
  have h5 := fun w => mul_any a b ha1 ha2 hb1 hb2 w
  have h6 := fun w => rmul_any a b ha1 ha2 hb1 hb2 w
  generalize tv (a + b) = v1 at h1 h2
  generalize te (a + b) = u1 at h1 h2
  generalize tv (a - b) = v2 at h3 h4
  generalize te (a - b) = u2 at h3 h4
  generalize tv (a * b) = v3 at h5 h6
  generalize te (a * b) = u3 at h5 h6
  have H1 := Lib.hid h1
  have H2 := Lib.hid h2
  have H3 := Lib.hid h3
  have H4 := Lib.hid h4
  have H5 := Lib.hid h5
  have H6 := Lib.hid h6
  clear h1 h2 h3 h4 h5 h6
  go_enter Try.func3, Try.ntmps3
  go_wp2_with fail
  refine (H1.out _).mono ?_
  rintro e w1 ⟨rfl, rfl⟩
  go_wp2_with fail
  refine (H2.out _).mono ?_
  rintro e w2 ⟨rfl, hB2⟩
  go_wp2_with fail
  refine (H3.out _).mono ?_
  rintro e w3 ⟨rfl, rfl⟩
  go_wp2_with fail
  refine (H4.out _).mono ?_
  rintro e w4 ⟨rfl, hB4⟩
  go_wp2_with fail
  refine (H5.out _).mono ?_
  rintro e w5 ⟨rfl, rfl⟩
  go_wp2_with fail
  refine (H6.out _).mono ?_
  rintro e w6 ⟨rfl, hB6⟩
  go_wp2_with fail
  refine (HF.out _).mono ?_
  rintro e w7 ⟨rfl, n, rfl⟩
  go_wp2_with fail
  refine (HG.out _).mono ?_
  rintro e w8 ⟨rfl, hB8⟩
  have hB24 := hB2.trans (hB4.mono hB2.size)
  have hB26 := hB24.trans (hB6.mono hB24.size)
  have hB27 := below_drewN hB26 n
  have hB28 := hB27.trans (hB8.mono hB27.size)
  clear hB2 hB4 hB6 hB8 hB24 hB26 hB27
  go_wp2
  go_ret
  exact ⟨rfl, hB28⟩
end Go.Proofs.Ytmkmpkajcjdfaaa
