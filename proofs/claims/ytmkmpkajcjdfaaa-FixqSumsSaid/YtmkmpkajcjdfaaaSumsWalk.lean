/- The walk of the statement FixqSums: whatever slice of int64, it answers true and writes nothing that was there. -/
import Derived.Test.YtmkmpkajcjdfaaaAll
set_option linter.unusedVariables false
namespace Go.Proofs.Ytmkmpkajcjdfaaa
open Go.RowKit Go.Shelf
set_option maxHeartbeats 1000000 in
theorem sums_any (a0 : Option Addr) (len cap : Nat) (zs : List Int) (w : World) (h : IsRow .i64 w a0 len cap zs) :
    Calls Try.prog 4 #[.slice a0 len cap] w fun e w' => e = .returned (.bool true) ∧ Below w.heap.size w w' := by
  by_cases hl : len ≤ 100
  · obtain ⟨es, he, hI⟩ := ints_of_row h
    have hr : es.length * 8 ≤ 140737488351232 := by omega
    have HI := Lib.hid hI
    have HE := Lib.hid he
    have HR := Lib.hid hr
    clear h hI he hr
    go_enter Try.func4, Try.ntmps4
    go_wp2_with fail
    refine (sum_any a0 len cap es HR.out w HI.out).mono ?_
    rintro e w1 ⟨rfl, hB1⟩
    go_wp2_with fail
    refine (all_any a0 len cap es hl HE.out w1 ((HI.out.below hB1).mono hB1.size)).mono ?_
    rintro e w2 ⟨rfl, hB2⟩
    go_wp2
    go_ret
    exact ⟨rfl, hB1.trans (hB2.mono hB1.size)⟩
  · have hl' : 100 < len := by omega
    clear hl h
    go_enter Try.func4, Try.ntmps4
    go_wp2
    go_ret
    exact ⟨rfl, Below.refl _ _⟩
end Go.Proofs.Ytmkmpkajcjdfaaa
