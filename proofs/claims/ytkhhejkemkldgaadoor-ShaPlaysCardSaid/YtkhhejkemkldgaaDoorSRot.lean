/- Rotations, and the four functions of words. -/
import Derived.Test.YtkhhejkemkldgaaDoorSMath
import Derived.Test.YtkhhejkemkldgaaDoorProg
import Derived.WalkKit
import Derived.WalkLawsBesides
import Derived.IntWalk
import Derived.Lib.Hide
set_option linter.unusedVariables false
namespace Go.Proofs.YtkhhejkemkldgaaDoor
open Go.RowKit
theorem bits_xor_nat (k : IntKind) (hk : ∀ n : Int, 0 ≤ n → n < 2 ^ k.bits → k.wrap n = n) (a b : Nat) (ha : a < 2 ^ k.bits) (hb : b < 2 ^ k.bits) :
    bits .xor k a b = ((a ^^^ b : Nat) : Int) := by
  have ha' : a % 2 ^ k.bits = a := Nat.mod_eq_of_lt ha
  have hb' : b % 2 ^ k.bits = b := Nat.mod_eq_of_lt hb
  have hx : a ^^^ b < 2 ^ k.bits := Nat.xor_lt_two_pow ha hb
  simp only [bits, BitVec.ofInt_natCast, BitVec.toNat_xor, BitVec.toNat_ofNat, ha', hb']
  exact hk _ (Int.natCast_nonneg _) (by exact_mod_cast hx)
theorem wraps_u32 (n : Int) (h₀ : 0 ≤ n) (h₁ : n < 2 ^ 32) : IntKind.u32.wrap n = n := by rw [IntKind.wrap_u32]; omega
theorem xor32 (a b : Nat) (ha : a < 4294967296) (hb : b < 4294967296) : bits .xor .u32 (a : Int) (b : Int) = ((a ^^^ b : Nat) : Int) := bits_xor_nat .u32 wraps_u32 a b ha hb
theorem and32 (a b : Nat) (ha : a < 4294967296) (hb : b < 4294967296) : bits .and .u32 (a : Int) (b : Int) = ((a &&& b : Nat) : Int) := (bits_nat .u32 32 (by decide) wraps_u32 a b ha hb).1
theorem or32 (a b : Nat) (ha : a < 4294967296) (hb : b < 4294967296) : bits .or .u32 (a : Int) (b : Int) = ((a ||| b : Nat) : Int) := (bits_nat .u32 32 (by decide) wraps_u32 a b ha hb).2
theorem ret_eq {k : IntKind} {a b : Int} (h : a = b) : Ending.returned (.int k a) = .returned (.int k b) := by rw [h]
theorem int_eq {k : IntKind} {a b : Int} (h : a = b) : Value.int k a = Value.int k b := by rw [h]
theorem rotr_says (n x : Nat) (hx : x < 4294967296) (hn : n ≤ 32) : bits .or .u32 (IntKind.u32.wrap ((x : Int) * 2 ^ (32 - n))) ((x : Int) / 2 ^ n) = ((rotr n x : Nat) : Int) := by
  have h1 : IntKind.u32.wrap ((x : Int) * 2 ^ (32 - n)) = (((x * 2 ^ (32 - n)) % 4294967296 : Nat) : Int) := by rw [IntKind.wrap_u32]; simp
  have h2 : (x : Int) / 2 ^ n = ((x / 2 ^ n : Nat) : Int) := by simp
  rw [h1, h2, or32 _ _ (Nat.mod_lt _ (by decide)) (Nat.lt_of_le_of_lt (Nat.div_le_self _ _) hx)]; rfl
theorem rot2 (x : Nat) (hx : x < 4294967296) (w : World) :
    Calls Tryd.prog 49 #[.int .u32 x, .int .i64 (-2)] w fun e w' => e = .returned (.int .u32 (rotr 2 x : Nat)) ∧ w = w' := by
  have E : bits .and .u64 (IntKind.u64.wrap (-2)) 31 = 30 := by decide
  have HX := Lib.hid hx
  clear hx
  go_enter Tryd.func49, Tryd.ntmps49
  go_wp2
  go_ret
  exact ⟨ret_eq (rotr_says 2 x HX.out (by decide)), rfl⟩
theorem right2 (x : Nat) (hx : x < 4294967296) (w : World) :
    Calls Tryd.prog 48 #[.int .u32 x, .int .i64 2] w fun e w' => e = .returned (.int .u32 (rotr 2 x : Nat)) ∧ w = w' := by
  go_enter Tryd.func48, Tryd.ntmps48
  go_wp2_with (go_at_call 49; refine (rot2 x hx _).mono ?_; rintro e w' ⟨rfl, rfl⟩)
  go_ret
  exact ⟨rfl, rfl⟩
theorem rot6 (x : Nat) (hx : x < 4294967296) (w : World) :
    Calls Tryd.prog 49 #[.int .u32 x, .int .i64 (-6)] w fun e w' => e = .returned (.int .u32 (rotr 6 x : Nat)) ∧ w = w' := by
  have E : bits .and .u64 (IntKind.u64.wrap (-6)) 31 = 26 := by decide
  have HX := Lib.hid hx
  clear hx
  go_enter Tryd.func49, Tryd.ntmps49
  go_wp2
  go_ret
  exact ⟨ret_eq (rotr_says 6 x HX.out (by decide)), rfl⟩
theorem right6 (x : Nat) (hx : x < 4294967296) (w : World) :
    Calls Tryd.prog 48 #[.int .u32 x, .int .i64 6] w fun e w' => e = .returned (.int .u32 (rotr 6 x : Nat)) ∧ w = w' := by
  go_enter Tryd.func48, Tryd.ntmps48
  go_wp2_with (go_at_call 49; refine (rot6 x hx _).mono ?_; rintro e w' ⟨rfl, rfl⟩)
  go_ret
  exact ⟨rfl, rfl⟩
theorem rot7 (x : Nat) (hx : x < 4294967296) (w : World) :
    Calls Tryd.prog 49 #[.int .u32 x, .int .i64 (-7)] w fun e w' => e = .returned (.int .u32 (rotr 7 x : Nat)) ∧ w = w' := by
  have E : bits .and .u64 (IntKind.u64.wrap (-7)) 31 = 25 := by decide
  have HX := Lib.hid hx
  clear hx
  go_enter Tryd.func49, Tryd.ntmps49
  go_wp2
  go_ret
  exact ⟨ret_eq (rotr_says 7 x HX.out (by decide)), rfl⟩
theorem right7 (x : Nat) (hx : x < 4294967296) (w : World) :
    Calls Tryd.prog 48 #[.int .u32 x, .int .i64 7] w fun e w' => e = .returned (.int .u32 (rotr 7 x : Nat)) ∧ w = w' := by
  go_enter Tryd.func48, Tryd.ntmps48
  go_wp2_with (go_at_call 49; refine (rot7 x hx _).mono ?_; rintro e w' ⟨rfl, rfl⟩)
  go_ret
  exact ⟨rfl, rfl⟩
theorem rot11 (x : Nat) (hx : x < 4294967296) (w : World) :
    Calls Tryd.prog 49 #[.int .u32 x, .int .i64 (-11)] w fun e w' => e = .returned (.int .u32 (rotr 11 x : Nat)) ∧ w = w' := by
  have E : bits .and .u64 (IntKind.u64.wrap (-11)) 31 = 21 := by decide
  have HX := Lib.hid hx
  clear hx
  go_enter Tryd.func49, Tryd.ntmps49
  go_wp2
  go_ret
  exact ⟨ret_eq (rotr_says 11 x HX.out (by decide)), rfl⟩
theorem right11 (x : Nat) (hx : x < 4294967296) (w : World) :
    Calls Tryd.prog 48 #[.int .u32 x, .int .i64 11] w fun e w' => e = .returned (.int .u32 (rotr 11 x : Nat)) ∧ w = w' := by
  go_enter Tryd.func48, Tryd.ntmps48
  go_wp2_with (go_at_call 49; refine (rot11 x hx _).mono ?_; rintro e w' ⟨rfl, rfl⟩)
  go_ret
  exact ⟨rfl, rfl⟩
theorem rot13 (x : Nat) (hx : x < 4294967296) (w : World) :
    Calls Tryd.prog 49 #[.int .u32 x, .int .i64 (-13)] w fun e w' => e = .returned (.int .u32 (rotr 13 x : Nat)) ∧ w = w' := by
  have E : bits .and .u64 (IntKind.u64.wrap (-13)) 31 = 19 := by decide
  have HX := Lib.hid hx
  clear hx
  go_enter Tryd.func49, Tryd.ntmps49
  go_wp2
  go_ret
  exact ⟨ret_eq (rotr_says 13 x HX.out (by decide)), rfl⟩
theorem right13 (x : Nat) (hx : x < 4294967296) (w : World) :
    Calls Tryd.prog 48 #[.int .u32 x, .int .i64 13] w fun e w' => e = .returned (.int .u32 (rotr 13 x : Nat)) ∧ w = w' := by
  go_enter Tryd.func48, Tryd.ntmps48
  go_wp2_with (go_at_call 49; refine (rot13 x hx _).mono ?_; rintro e w' ⟨rfl, rfl⟩)
  go_ret
  exact ⟨rfl, rfl⟩
theorem rot17 (x : Nat) (hx : x < 4294967296) (w : World) :
    Calls Tryd.prog 49 #[.int .u32 x, .int .i64 (-17)] w fun e w' => e = .returned (.int .u32 (rotr 17 x : Nat)) ∧ w = w' := by
  have E : bits .and .u64 (IntKind.u64.wrap (-17)) 31 = 15 := by decide
  have HX := Lib.hid hx
  clear hx
  go_enter Tryd.func49, Tryd.ntmps49
  go_wp2
  go_ret
  exact ⟨ret_eq (rotr_says 17 x HX.out (by decide)), rfl⟩
theorem right17 (x : Nat) (hx : x < 4294967296) (w : World) :
    Calls Tryd.prog 48 #[.int .u32 x, .int .i64 17] w fun e w' => e = .returned (.int .u32 (rotr 17 x : Nat)) ∧ w = w' := by
  go_enter Tryd.func48, Tryd.ntmps48
  go_wp2_with (go_at_call 49; refine (rot17 x hx _).mono ?_; rintro e w' ⟨rfl, rfl⟩)
  go_ret
  exact ⟨rfl, rfl⟩
theorem rot18 (x : Nat) (hx : x < 4294967296) (w : World) :
    Calls Tryd.prog 49 #[.int .u32 x, .int .i64 (-18)] w fun e w' => e = .returned (.int .u32 (rotr 18 x : Nat)) ∧ w = w' := by
  have E : bits .and .u64 (IntKind.u64.wrap (-18)) 31 = 14 := by decide
  have HX := Lib.hid hx
  clear hx
  go_enter Tryd.func49, Tryd.ntmps49
  go_wp2
  go_ret
  exact ⟨ret_eq (rotr_says 18 x HX.out (by decide)), rfl⟩
theorem right18 (x : Nat) (hx : x < 4294967296) (w : World) :
    Calls Tryd.prog 48 #[.int .u32 x, .int .i64 18] w fun e w' => e = .returned (.int .u32 (rotr 18 x : Nat)) ∧ w = w' := by
  go_enter Tryd.func48, Tryd.ntmps48
  go_wp2_with (go_at_call 49; refine (rot18 x hx _).mono ?_; rintro e w' ⟨rfl, rfl⟩)
  go_ret
  exact ⟨rfl, rfl⟩
theorem rot19 (x : Nat) (hx : x < 4294967296) (w : World) :
    Calls Tryd.prog 49 #[.int .u32 x, .int .i64 (-19)] w fun e w' => e = .returned (.int .u32 (rotr 19 x : Nat)) ∧ w = w' := by
  have E : bits .and .u64 (IntKind.u64.wrap (-19)) 31 = 13 := by decide
  have HX := Lib.hid hx
  clear hx
  go_enter Tryd.func49, Tryd.ntmps49
  go_wp2
  go_ret
  exact ⟨ret_eq (rotr_says 19 x HX.out (by decide)), rfl⟩
theorem right19 (x : Nat) (hx : x < 4294967296) (w : World) :
    Calls Tryd.prog 48 #[.int .u32 x, .int .i64 19] w fun e w' => e = .returned (.int .u32 (rotr 19 x : Nat)) ∧ w = w' := by
  go_enter Tryd.func48, Tryd.ntmps48
  go_wp2_with (go_at_call 49; refine (rot19 x hx _).mono ?_; rintro e w' ⟨rfl, rfl⟩)
  go_ret
  exact ⟨rfl, rfl⟩
theorem rot22 (x : Nat) (hx : x < 4294967296) (w : World) :
    Calls Tryd.prog 49 #[.int .u32 x, .int .i64 (-22)] w fun e w' => e = .returned (.int .u32 (rotr 22 x : Nat)) ∧ w = w' := by
  have E : bits .and .u64 (IntKind.u64.wrap (-22)) 31 = 10 := by decide
  have HX := Lib.hid hx
  clear hx
  go_enter Tryd.func49, Tryd.ntmps49
  go_wp2
  go_ret
  exact ⟨ret_eq (rotr_says 22 x HX.out (by decide)), rfl⟩
theorem right22 (x : Nat) (hx : x < 4294967296) (w : World) :
    Calls Tryd.prog 48 #[.int .u32 x, .int .i64 22] w fun e w' => e = .returned (.int .u32 (rotr 22 x : Nat)) ∧ w = w' := by
  go_enter Tryd.func48, Tryd.ntmps48
  go_wp2_with (go_at_call 49; refine (rot22 x hx _).mono ?_; rintro e w' ⟨rfl, rfl⟩)
  go_ret
  exact ⟨rfl, rfl⟩
theorem rot25 (x : Nat) (hx : x < 4294967296) (w : World) :
    Calls Tryd.prog 49 #[.int .u32 x, .int .i64 (-25)] w fun e w' => e = .returned (.int .u32 (rotr 25 x : Nat)) ∧ w = w' := by
  have E : bits .and .u64 (IntKind.u64.wrap (-25)) 31 = 7 := by decide
  have HX := Lib.hid hx
  clear hx
  go_enter Tryd.func49, Tryd.ntmps49
  go_wp2
  go_ret
  exact ⟨ret_eq (rotr_says 25 x HX.out (by decide)), rfl⟩
theorem right25 (x : Nat) (hx : x < 4294967296) (w : World) :
    Calls Tryd.prog 48 #[.int .u32 x, .int .i64 25] w fun e w' => e = .returned (.int .u32 (rotr 25 x : Nat)) ∧ w = w' := by
  go_enter Tryd.func48, Tryd.ntmps48
  go_wp2_with (go_at_call 49; refine (rot25 x hx _).mono ?_; rintro e w' ⟨rfl, rfl⟩)
  go_ret
  exact ⟨rfl, rfl⟩
end Go.Proofs.YtkhhejkemkldgaaDoor
