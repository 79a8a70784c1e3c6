/- The walk of the statement CrcSums. -/
import Derived.Test.YthcijpfpkainhaaCRef16
import Derived.Test.YthcijpfpkainhaaCRef32
import Derived.Test.YthcijpfpkainhaaCRow
set_option linter.unusedVariables false
namespace Go.Proofs.Ythcijpfpkainhaa
open Go.RowKit Go.Shelf
theorem bounds_u32 {n : Int} (h : (Lit.int .u32 n).wf = true) : 0 ≤ n ∧ n < 4294967296 := by
  simp [Lit.wf, IntKind.min, IntKind.max, IntKind.bits, IntKind.signed] at h; omega
set_option maxHeartbeats 1000000 in
theorem sums_any (a : Option Addr) (len cap : Nat) (zs : List Int) (n : Int) (w : World) (h : IsRow .u8 w a len cap zs) (hn : (Lit.int .u32 n).wf = true) :
    Calls Try.prog 3 #[.slice a len cap, .int .u32 n] w fun e w' => e = .returned (.bool true) ∧ Below w.heap.size w w' := by
  by_cases hl : len ≤ 4000
  · obtain ⟨xs, hx, hI⟩ := bys_of_row h
    have hr : xs.length ≤ 100000000000000 := by omega
    obtain ⟨hn0, hn1⟩ := bounds_u32 hn
    obtain ⟨m, rfl⟩ := Int.eq_ofNat_of_zero_le hn0
    have hm : m < 4294967296 := by omega
    have hw : IntKind.u16.wrap (m : Int) = ((m % 65536 : Nat) : Int) := by rw [wrap_u16]; omega
    have hm16 : m % 65536 < 65536 := by omega
    generalize m % 65536 = k at hw hm16
    have c1 := fun w' (hb : Below w.heap.size w w') => sum16_any a len cap xs hr w' ((hI.below hb).mono hb.size)
    have c2 := fun w' (hb : Below w.heap.size w w') => ref16_any w.heap.size 65535 (by decide) a len cap xs hr w' (hI.below hb)
    have c3 := fun w' (hb : Below w.heap.size w w') => sum32_any a len cap xs hr w' ((hI.below hb).mono hb.size)
    have c4 := fun w' (hb : Below w.heap.size w w') => ref32_any w.heap.size 0 (by decide) a len cap xs hr w' (hI.below hb)
    have c5 := fun w' (hb : Below w.heap.size w w') => more16_any k hm16 a len cap xs hr w' ((hI.below hb).mono hb.size)
    have c6 := fun w' (hb : Below w.heap.size w w') => ref16_any w.heap.size k hm16 a len cap xs hr w' (hI.below hb)
    have c7 := fun w' (hb : Below w.heap.size w w') => more32_any m hm a len cap xs hr w' ((hI.below hb).mono hb.size)
    have c8 := fun w' (hb : Below w.heap.size w w') => ref32_any w.heap.size m hm a len cap xs hr w' (hI.below hb)
    rw [show ((65535 : Nat) : Int) = 65535 from rfl] at c2
    rw [show ((0 : Nat) : Int) = 0 from rfl] at c4
    clear hI h hx hr hn hm16 hm hn0 hn1
    go_enter Try.func3, Try.ntmps3
    go_wp2_with fail
    refine (c1 w (Below.refl _ _)).mono ?_
    rintro e w1 ⟨rfl, hB1⟩
    go_wp2_with fail
    refine (c2 w1 hB1).mono ?_
    rintro e _ ⟨rfl, rfl⟩
    go_wp2_with fail
    refine (c3 w1 hB1).mono ?_
    rintro e w3 ⟨rfl, hB3⟩
    go_wp2_with fail
    have hB3' := hB1.trans (hB3.mono hB1.size)
    refine (c4 w3 hB3').mono ?_
    rintro e _ ⟨rfl, rfl⟩
    go_wp2_with fail
    refine (c5 w3 hB3').mono ?_
    rintro e w5 ⟨rfl, hB5⟩
    have hB5' := hB3'.trans (hB5.mono hB3'.size)
    go_wp2_with fail
    refine (c6 w5 hB5').mono ?_
    rintro e _ ⟨rfl, rfl⟩
    go_wp2_with fail
    refine (c7 w5 hB5').mono ?_
    rintro e w7 ⟨rfl, hB7⟩
    have hB7' := hB5'.trans (hB7.mono hB5'.size)
    go_wp2_with fail
    refine (c8 w7 hB7').mono ?_
    rintro e _ ⟨rfl, rfl⟩
    go_wp2
    go_ret
    exact ⟨rfl, hB7'⟩
  · have hl' : 4000 < len := by omega
    clear hl h
    go_enter Try.func3, Try.ntmps3
    go_wp2
    go_ret
    exact ⟨rfl, Below.refl _ _⟩
end Go.Proofs.Ythcijpfpkainhaa
