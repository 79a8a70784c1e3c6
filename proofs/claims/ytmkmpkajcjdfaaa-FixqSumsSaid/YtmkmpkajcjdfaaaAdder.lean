/- The contract of the closure that fixq.Sum adds by: the two words of a number s become those of s + n. -/
import Derived.Test.YtmkmpkajcjdfaaaLeaf
import Derived.Lib.Hide
import Derived.Laws.Externs
import Derived.Deep.RegionWith
import Derived.Deep.QuietTactic
import Derived.BigQuiet
set_option linter.unusedVariables false
namespace Go.Proofs.Ytmkmpkajcjdfaaa
open Go.RowKit
theorem add64_run (x y c : Int) (hx : 0 ≤ x) (hy : 0 ≤ y) (hc0 : 0 ≤ c) (hc : c ≤ 1) (w : World) :
    (callFunc 32 #[.int .u64 x, .int .u64 y, .int .u64 c]).run Try.prog w = .ok (.value (.tuple #[.int .u64 (adl x y c), .int .u64 (adh x y c)])) w := by
  rw [run_callFunc_extern Try.func32 (by kernel_rfl) (by kernel_rfl) (by kernel_rfl) (e := add64Entry) (by kernel_rfl), run_add64 x y c hx hy hc0 hc]
  rfl
set_option maxHeartbeats 1000000 in
theorem adder_pos (n x y : Int) (bl bh : Nat) (hne : bl ≠ bh) (h1 : 0 ≤ n) (h2 : n ≤ 9223372036854775807) (w : World)
    (hl : w.cell? ⟨bl, 0, none⟩ = some (.int .u64 x)) (hh : w.cell? ⟨bh, 0, none⟩ = some (.int .u64 y)) (fl : w.frozen? ⟨bl, 0, none⟩ = false) (fh : w.frozen? ⟨bh, 0, none⟩ = false)
    (x0 : 0 ≤ x) (x1 : x ≤ 18446744073709551615) (y0 : 0 ≤ y) (y1 : y ≤ 18446744073709551615) :
    Calls Try.prog 31 #[.int .i64 n, .pointer (some ⟨bl, 0, none⟩), .pointer (some ⟨bh, 0, none⟩)] w fun e w' => e = .returned (.tuple #[]) ∧
      w' = ((w.setCell ⟨bl, 0, none⟩ (.int .u64 (adl x n 0))).setCell ⟨bh, 0, none⟩ (.int .u64 (adl y (sw n) (adh x n 0)))).drew := by
  have ra := fun w => add64_run x n 0 x0 h1 (by omega) (by omega) w
  have hcb := adh_bd (x := x) (y := n) (c := 0) ⟨x0, x1⟩ ⟨h1, by omega⟩ ⟨by omega, by omega⟩
  have rb := fun w => add64_run y (sw n) (adh x n 0) y0 (sw_bd n).1 hcb.1 hcb.2 w
  go_enter Try.func31, Try.ntmps31
  go_wp2
  go_region_with (go_at_call 33; refine (signWord_any _ (by omega) (by omega) _).mono ?_; rintro e w' ⟨rfl, rfl⟩)
  all_goals (go_end0; exact ⟨rfl, rfl⟩)
set_option maxHeartbeats 1000000 in
theorem adder_neg (n x y : Int) (bl bh : Nat) (hne : bl ≠ bh) (h1 : -9223372036854775808 ≤ n) (h2 : n < 0) (w : World)
    (hl : w.cell? ⟨bl, 0, none⟩ = some (.int .u64 x)) (hh : w.cell? ⟨bh, 0, none⟩ = some (.int .u64 y)) (fl : w.frozen? ⟨bl, 0, none⟩ = false) (fh : w.frozen? ⟨bh, 0, none⟩ = false)
    (x0 : 0 ≤ x) (x1 : x ≤ 18446744073709551615) (y0 : 0 ≤ y) (y1 : y ≤ 18446744073709551615) :
    Calls Try.prog 31 #[.int .i64 n, .pointer (some ⟨bl, 0, none⟩), .pointer (some ⟨bh, 0, none⟩)] w fun e w' => e = .returned (.tuple #[]) ∧
      w' = ((w.setCell ⟨bl, 0, none⟩ (.int .u64 (adl x (IntKind.u64.wrap n) 0))).setCell ⟨bh, 0, none⟩ (.int .u64 (adl y (sw n) (adh x (IntKind.u64.wrap n) 0)))).drew := by
  have hwn : 0 ≤ IntKind.u64.wrap n ∧ IntKind.u64.wrap n ≤ 18446744073709551615 := by rw [IntKind.wrap_u64]; omega
  have ra := fun w => add64_run x (IntKind.u64.wrap n) 0 x0 hwn.1 (by omega) (by omega) w
  have hcb := adh_bd (x := x) (y := IntKind.u64.wrap n) (c := 0) ⟨x0, x1⟩ hwn ⟨by omega, by omega⟩
  have rb := fun w => add64_run y (sw n) (adh x (IntKind.u64.wrap n) 0) y0 (sw_bd n).1 hcb.1 hcb.2 w
  go_enter Try.func31, Try.ntmps31
  go_wp2
  go_region_with (go_at_call 33; refine (signWord_any _ (by omega) (by omega) _).mono ?_; rintro e w' ⟨rfl, rfl⟩)
  all_goals (go_end0; exact ⟨rfl, rfl⟩)
/-- The closure, whatever the number: the words of s become the words of s + n. -/
theorem adder_any (s n : Int) (bl bh : Nat) (hne : bl ≠ bh) (h1 : -9223372036854775808 ≤ n) (h2 : n ≤ 9223372036854775807) (w : World)
    (hl : w.cell? ⟨bl, 0, none⟩ = some (.int .u64 (lw s))) (hh : w.cell? ⟨bh, 0, none⟩ = some (.int .u64 (hw s))) (fl : w.frozen? ⟨bl, 0, none⟩ = false) (fh : w.frozen? ⟨bh, 0, none⟩ = false) :
    Calls Try.prog 31 #[.int .i64 n, .pointer (some ⟨bl, 0, none⟩), .pointer (some ⟨bh, 0, none⟩)] w fun e w' => e = .returned (.tuple #[]) ∧
      w' = ((w.setCell ⟨bl, 0, none⟩ (.int .u64 (lw (s + n)))).setCell ⟨bh, 0, none⟩ (.int .u64 (hw (s + n)))).drew := by
  have e1 := lw_add s n
  have e2 := hw_add s n h1 h2
  obtain ⟨x0, x1⟩ := lw_bd s
  obtain ⟨y0, y1⟩ := hw_bd s
  rcases Int.lt_or_le n 0 with h | h
  · have hk := adder_neg n (lw s) (hw s) bl bh hne h1 h w hl hh fl fh x0 x1 y0 y1
    rw [IntKind.wrap_u64] at hk
    rwa [e1, e2] at hk
  · have hk := adder_pos n (lw s) (hw s) bl bh hne h h2 w hl hh fl fh x0 x1 y0 y1
    rw [show n % 18446744073709551616 = n by omega] at e1 e2
    rwa [e1, e2] at hk
end Go.Proofs.Ytmkmpkajcjdfaaa
