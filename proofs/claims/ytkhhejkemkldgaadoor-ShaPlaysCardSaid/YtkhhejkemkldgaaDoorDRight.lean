/- The document's right: a word turned. -/
import Derived.Test.YtkhhejkemkldgaaDoorSSig
import Derived.Deep.QuietTactic
import Derived.BigQuiet
set_option linter.unusedVariables false
set_option linter.unusedSimpArgs false
namespace Go.Proofs.YtkhhejkemkldgaaDoor
open Go.RowKit
theorem right_says (n x : Nat) (hx : x < 4294967296) : bits .or .u32 ((x : Int) / 2 ^ n) ((x : Int) * 2 ^ (32 - n) % 4294967296) = ((rotr n x : Nat) : Int) := by
  have h1 : (x : Int) * 2 ^ (32 - n) % 4294967296 = (((x * 2 ^ (32 - n)) % 4294967296 : Nat) : Int) := by simp
  have h2 : (x : Int) / 2 ^ n = ((x / 2 ^ n : Nat) : Int) := by simp
  rw [h1, h2, or32 _ _ (Nat.lt_of_le_of_lt (Nat.div_le_self _ _) hx) (Nat.mod_lt _ (by decide)), Nat.or_comm]; rfl
theorem dright_any (x n : Nat) (hx : x < 4294967296) (h1 : 1 ≤ n) (h2 : n ≤ 31) (w : World) :
    Calls Tryd.prog 37 #[.int .u32 x, .int .i64 n] w fun e w' => e = .returned (.int .u32 (rotr n x : Nat)) ∧ ∃ m, w' = w.drewN m := by
  have hw : IntKind.i64.wrap (32 - (n : Int)) = ((32 - n : Nat) : Int) := by rw [IntKind.wrap_i64]; omega
  go_enter Tryd.func37, Tryd.ntmps37
  go_wp2_with fail
  go_quiet (fail)
  go_wp2
  exact bodyPost_ret (v := .int .u32 (rotr n x : Nat)) (by simp only [results, Tryd.results37]; rw [← right_says n x hx]; simp [go_sem]) rfl ⟨rfl, nq, rfl⟩
end Go.Proofs.YtkhhejkemkldgaaDoor
