/- The four functions of words. -/
import Derived.Test.YtkhhejkemkldgaaDoorSRot
import Derived.Test.YtkhhejkemkldgaaDoorProg
import Derived.WalkKit
import Derived.WalkLawsBesides
import Derived.IntWalk
import Derived.Lib.Hide
set_option linter.unusedVariables false
namespace Go.Proofs.YtkhhejkemkldgaaDoor
open Go.RowKit
theorem low0_says (x : Nat) (hx : x < 4294967296) : bits .xor .u32 (bits .xor .u32 (rotr 7 x : Nat) (rotr 18 x : Nat)) ((x : Int) / 8) = ((low0 x : Nat) : Int) := by
  rw [xor32 _ _ (rotr_lt _ _ hx) (rotr_lt _ _ hx)]
  rw [show (x : Int) / 8 = ((x / 8 : Nat) : Int) by omega]
  rw [xor32 _ _ (xor_lt32 (rotr_lt _ _ hx) (rotr_lt _ _ hx)) (Nat.lt_of_le_of_lt (Nat.div_le_self _ _) hx)]; rfl
theorem low0_any (x : Nat) (hx : x < 4294967296) (w : World) :
    Calls Tryd.prog 46 #[.int .u32 x] w fun e w' => e = .returned (.int .u32 (low0 x : Nat)) ∧ w = w' := by
  have HX := Lib.hid hx
  clear hx
  go_enter Tryd.func46, Tryd.ntmps46
  go_wp2_with (go_at_call 48; first | ((with_reducible refine (right7 x HX.out _).mono ?_); rintro e w' ⟨rfl, rfl⟩) | ((with_reducible refine (right18 x HX.out _).mono ?_); rintro e w' ⟨rfl, rfl⟩))
  go_ret
  exact ⟨ret_eq (low0_says x HX.out), rfl⟩
theorem low1_says (x : Nat) (hx : x < 4294967296) : bits .xor .u32 (bits .xor .u32 (rotr 17 x : Nat) (rotr 19 x : Nat)) ((x : Int) / 1024) = ((low1 x : Nat) : Int) := by
  rw [xor32 _ _ (rotr_lt _ _ hx) (rotr_lt _ _ hx)]
  rw [show (x : Int) / 1024 = ((x / 1024 : Nat) : Int) by omega]
  rw [xor32 _ _ (xor_lt32 (rotr_lt _ _ hx) (rotr_lt _ _ hx)) (Nat.lt_of_le_of_lt (Nat.div_le_self _ _) hx)]; rfl
theorem low1_any (x : Nat) (hx : x < 4294967296) (w : World) :
    Calls Tryd.prog 45 #[.int .u32 x] w fun e w' => e = .returned (.int .u32 (low1 x : Nat)) ∧ w = w' := by
  have HX := Lib.hid hx
  clear hx
  go_enter Tryd.func45, Tryd.ntmps45
  go_wp2_with (go_at_call 48; first | ((with_reducible refine (right17 x HX.out _).mono ?_); rintro e w' ⟨rfl, rfl⟩) | ((with_reducible refine (right19 x HX.out _).mono ?_); rintro e w' ⟨rfl, rfl⟩))
  go_ret
  exact ⟨ret_eq (low1_says x HX.out), rfl⟩
theorem high0_says (x : Nat) (hx : x < 4294967296) : bits .xor .u32 (bits .xor .u32 (rotr 2 x : Nat) (rotr 13 x : Nat)) (rotr 22 x : Nat) = ((high0 x : Nat) : Int) := by
  rw [xor32 _ _ (rotr_lt _ _ hx) (rotr_lt _ _ hx)]
  skip
  rw [xor32 _ _ (xor_lt32 (rotr_lt _ _ hx) (rotr_lt _ _ hx)) (rotr_lt _ _ hx)]; rfl
theorem high0_any (x : Nat) (hx : x < 4294967296) (w : World) :
    Calls Tryd.prog 44 #[.int .u32 x] w fun e w' => e = .returned (.int .u32 (high0 x : Nat)) ∧ w = w' := by
  have HX := Lib.hid hx
  clear hx
  go_enter Tryd.func44, Tryd.ntmps44
  go_wp2_with (go_at_call 48; first | ((with_reducible refine (right2 x HX.out _).mono ?_); rintro e w' ⟨rfl, rfl⟩) | ((with_reducible refine (right13 x HX.out _).mono ?_); rintro e w' ⟨rfl, rfl⟩) | ((with_reducible refine (right22 x HX.out _).mono ?_); rintro e w' ⟨rfl, rfl⟩))
  go_ret
  exact ⟨ret_eq (high0_says x HX.out), rfl⟩
theorem high1_says (x : Nat) (hx : x < 4294967296) : bits .xor .u32 (bits .xor .u32 (rotr 6 x : Nat) (rotr 11 x : Nat)) (rotr 25 x : Nat) = ((high1 x : Nat) : Int) := by
  rw [xor32 _ _ (rotr_lt _ _ hx) (rotr_lt _ _ hx)]
  skip
  rw [xor32 _ _ (xor_lt32 (rotr_lt _ _ hx) (rotr_lt _ _ hx)) (rotr_lt _ _ hx)]; rfl
theorem high1_any (x : Nat) (hx : x < 4294967296) (w : World) :
    Calls Tryd.prog 43 #[.int .u32 x] w fun e w' => e = .returned (.int .u32 (high1 x : Nat)) ∧ w = w' := by
  have HX := Lib.hid hx
  clear hx
  go_enter Tryd.func43, Tryd.ntmps43
  go_wp2_with (go_at_call 48; first | ((with_reducible refine (right6 x HX.out _).mono ?_); rintro e w' ⟨rfl, rfl⟩) | ((with_reducible refine (right11 x HX.out _).mono ?_); rintro e w' ⟨rfl, rfl⟩) | ((with_reducible refine (right25 x HX.out _).mono ?_); rintro e w' ⟨rfl, rfl⟩))
  go_ret
  exact ⟨ret_eq (high1_says x HX.out), rfl⟩
end Go.Proofs.YtkhhejkemkldgaaDoor
