/- The contract of fixq.Carry by 1000000. -/
import Derived.Test.YtbffmobjiiicoaaDoorFDiv
import Derived.Test.YtbffmobjiiicoaaDoorJF0
namespace Go.Proofs.YtbffmobjiiicoaaDoor
open Go.RowKit
set_option linter.unusedVariables false
def U64 : Nat := 18446744073709551616
/-- What Carry answers of a number X that is divided by 1000000. -/
def cOk (X : Nat) : Bool := decide (X / 1000000 < 18446744073709551616)
def cQ (X : Nat) : Nat := if X / 1000000 < 18446744073709551616 then X / 1000000 else 0
def cR (X : Nat) : Nat := if X / 1000000 < 18446744073709551616 then X % 1000000 else 0
def cE (X : Nat) : Int := if X / 1000000 < 18446744073709551616 then 0 else 10
theorem c_in {X : Nat} (h : X / 1000000 < 18446744073709551616) : cQ X = X / 1000000 ∧ cR X = X % 1000000 ∧ cE X = 0 := by simp [cQ, cR, cE, h]
theorem c_out {X : Nat} (h : ¬ X / 1000000 < 18446744073709551616) : cQ X = 0 ∧ cR X = 0 ∧ cE X = 10 := by simp [cQ, cR, cE, h]
theorem div_any (hi lo : Nat) (hh : hi < 1000000) (hl : lo < 18446744073709551616) (w : World) :
    Calls Tryd.prog 63 #[.int .u64 hi, .int .u64 lo, .int .u64 1000000] w fun e w' => e = .returned (.tuple #[.int .u64 (((hi * 18446744073709551616 + lo) / 1000000 : Nat) : Int), .int .u64 (((hi * 18446744073709551616 + lo) % 1000000 : Nat) : Int)]) ∧ Below w.heap.size w w' := by
  rcases Nat.eq_zero_or_pos hi with rfl | h1
  · rw [Nat.zero_mul, Nat.zero_add]
    exact div_small lo hl w
  · have hd : Dv hi lo _ _ _ _ := ⟨rfl, rfl, rfl, rfl⟩
    obtain ⟨_, _, _, _, e1, e2⟩ := hd.says hh hl
    rw [e1, e2]
    exact div_great hi lo _ _ _ _ h1 hh hl hd w
theorem add64_run (x y c : Int) (hx : 0 ≤ x) (hy : 0 ≤ y) (hc0 : 0 ≤ c) (hc : c ≤ 1) (w : World) :
    (callFunc 62 #[.int .u64 x, .int .u64 y, .int .u64 c]).run Tryd.prog w = .ok (.value (.tuple #[.int .u64 ((x + y + c) % 18446744073709551616), .int .u64 ((x + y + c) / 18446744073709551616)])) w := by
  rw [run_callFunc_extern Tryd.func62 (by kernel_rfl) (by kernel_rfl) (by kernel_rfl) (e := add64Entry) (by kernel_rfl), run_add64 x y c hx hy hc0 hc]
  rfl
theorem add_is (L rest lo cy : Nat) (h1 : (L + rest) % 18446744073709551616 = lo) (h2 : (L + rest) / 18446744073709551616 = cy) (w : World) :
    (callFunc 62 #[.int .u64 (L : Int), .int .u64 (rest : Int), .int .u64 0]).run Tryd.prog w = .ok (.value (.tuple #[.int .u64 (lo : Int), .int .u64 (cy : Int)])) w := by
  rw [add64_run _ _ _ (by omega) (by omega) (by omega) (by omega), show ((L : Int) + (rest : Int) + 0) % 18446744073709551616 = (lo : Int) by omega, show ((L : Int) + (rest : Int) + 0) / 18446744073709551616 = (cy : Int) by omega]
/-- The walk: H, L the words of the product, lo, cy what the rest makes of L, hi the high word then. -/
theorem carry_walk (n num rest H L lo cy hi : Nat) (hr : rest < 1000000) (hH : H < 18446744073709551615) (hL : L < 18446744073709551616)
    (HM : ∀ w : World, Calls Tryd.prog 61 #[.int .u64 n, .int .u64 num] w fun e w' => e = .returned (.tuple #[.int .u64 (H : Int), .int .u64 (L : Int)]) ∧ w = w')
    (h1 : (L + rest) % 18446744073709551616 = lo) (h2 : (L + rest) / 18446744073709551616 = cy) (h3 : H + cy = hi) (w : World) :
    Calls Tryd.prog 38 #[.int .u64 n, .int .u64 num, .int .u64 1000000, .int .u64 rest] w fun e w' =>
      e = .returned (.tuple #[.int .u64 (cQ (hi * 18446744073709551616 + lo) : Int), .int .u64 (cR (hi * 18446744073709551616 + lo) : Int), .int .i64 (cE (hi * 18446744073709551616 + lo))]) ∧ Below w.heap.size w w' := by
  have ha := add_is L rest lo cy h1 h2
  have hlo : lo < 18446744073709551616 := by omega
  have hcy : cy ≤ 1 := by omega
  have c0 : decide ((1000000 : Int) ≤ (rest : Int)) = false := by simp; omega
  have ew : IntKind.u64.wrap ((H : Int) + (cy : Int)) = (hi : Int) := by rw [IntKind.wrap_u64]; omega
  clear h1 h2 h3 hr hcy hH hL
  have HMM := Lib.hid HM
  clear HM
  by_cases hh : hi < 1000000
  · have HD := Lib.hid (fun w => div_any hi lo hh hlo w)
    obtain ⟨q1, q2, q3⟩ := c_in (X := hi * 18446744073709551616 + lo) (by omega)
    rw [q1, q2, q3]
    have c1 : decide ((1000000 : Int) ≤ (hi : Int)) = false := by simp; omega
    clear hlo hh q1 q2 q3
    generalize (hi * 18446744073709551616 + lo) / 1000000 = Q at *
    generalize (hi * 18446744073709551616 + lo) % 1000000 = R at *
    go_enter Tryd.func38, Tryd.ntmps38
    go_wp2_with (first | (go_at_call 61; refine (HMM.out _).mono ?_; rintro e w' ⟨rfl, rfl⟩) | (go_at_call 63; refine (HD.out _).mono ?_; rintro e w' ⟨rfl, hB⟩))
    go_ret3
    exact ⟨rfl, by assumption⟩
  · obtain ⟨q1, q2, q3⟩ := c_out (X := hi * 18446744073709551616 + lo) (by omega)
    rw [q1, q2, q3]
    have c1 : decide ((1000000 : Int) ≤ (hi : Int)) = true := by simp; omega
    clear hlo hh q1 q2 q3
    go_enter Tryd.func38, Tryd.ntmps38
    go_wp2_with (first | (go_at_call 61; refine (HMM.out _).mono ?_; rintro e w' ⟨rfl, rfl⟩))
    go_ret3
    exact ⟨rfl, Below.refl _ _⟩
/-- The quotient of n times num plus rest by 1000000, its remainder, or the error. -/
theorem carry_any (n num rest : Nat) (hn : n < 18446744073709551616) (hm : num < 18446744073709551616) (hr : rest < 1000000) (w : World) :
    Calls Tryd.prog 38 #[.int .u64 n, .int .u64 num, .int .u64 1000000, .int .u64 rest] w fun e w' =>
      e = .returned (.tuple #[.int .u64 (cQ (n * num + rest) : Int), .int .u64 (cR (n * num + rest) : Int), .int .i64 (cE (n * num + rest))]) ∧ Below w.heap.size w w' := by
  have hP : n * num ≤ 18446744073709551615 * 18446744073709551615 := Nat.mul_le_mul (by omega) (by omega)
  have k := carry_walk n num rest (n * num / 18446744073709551616) (n * num % 18446744073709551616) _ _ _ hr (by omega) (by omega) (fun w => F1.mul64_any n num hn hm w) rfl rfl rfl w
  have e : (n * num / 18446744073709551616 + (n * num % 18446744073709551616 + rest) / 18446744073709551616) * 18446744073709551616 + (n * num % 18446744073709551616 + rest) % 18446744073709551616 = n * num + rest := by
    generalize n * num = P
    omega
  rw [e] at k
  exact k
end Go.Proofs.YtbffmobjiiicoaaDoor
