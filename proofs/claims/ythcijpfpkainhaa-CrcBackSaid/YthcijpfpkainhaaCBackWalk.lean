/- The walk of the statement CrcBack. -/
import Derived.Test.YthcijpfpkainhaaCOpen16
import Derived.Test.YthcijpfpkainhaaCOpen32
set_option linter.unusedVariables false
namespace Go.Proofs.Ythcijpfpkainhaa
open Go.RowKit Go.Shelf
set_option maxRecDepth 100000 in
set_option maxHeartbeats 1000000 in
theorem back_any (a : Option Addr) (len cap : Nat) (za : List Int) (w : World) (ha : IsRow .u8 w a len cap za) :
    Calls Try.prog 6 #[.slice a len cap] w fun e w' => e = .returned (.bool true) ∧ Below w.heap.size w w' := by
  by_cases hl : len ≤ 4000
  · obtain ⟨xs, hx, hI⟩ := bys_of_row ha
    obtain ⟨a', c', e⟩ := hI.is
    cases e
    clear hx ha
    have l16 := seal16_len xs
    have l32 := seal32_len xs
    go_enter Try.func6, Try.ntmps6
    go_wp2_with fail
    refine (alive_any w).mono ?_
    rintro e w1 ⟨rfl, hB1⟩
    have cs := conv_bys (hI.below hB1)
    go_wp2_with fail
    refine (seal16_any a xs.length cap xs w1 ((hI.below hB1).mono hB1.size) (by omega)).mono ?_
    rintro e w2 ⟨a2, c2, rfl, hO2, hB2⟩
    have q2 := hO2.cap
    have hb2 := hO2.bys
    rw [l16] at q2 hb2 ⊢
    go_wp2_with fail
    refine (Open16_yes a2 c2 xs w2 hb2 q2 (by omega)).mono ?_
    rintro e w3 ⟨a3, c3, rfl, hO3, hB3⟩
    have h2 := hB1.trans (hB2.mono hB1.size)
    have h3 := h2.trans (hB3.mono h2.size)
    go_wp2_with fail
    refine (seal32_any a xs.length cap xs w3 ((hI.below h3).mono h3.size) (by omega)).mono ?_
    rintro e w4 ⟨a4, c4, rfl, hO4, hB4⟩
    have q4 := hO4.cap
    have hb4 := hO4.bys
    rw [l32] at q4 hb4 ⊢
    have h4 := h3.trans (hB4.mono h3.size)
    go_wp2_with fail
    refine (Open32_yes a4 c4 xs w4 hb4 q4 (by omega)).mono ?_
    rintro e w5 ⟨a5, c5, rfl, hO5, hB5⟩
    have h5 := h4.trans (hB5.mono h4.size)
    have cb := conv_bys (hI.below h5)
    have cc := conv_bys (((hO3.below hB4 (Nat.le_refl _)).below hB5 (Nat.le_refl _)).bys)
    have cd := conv_bys hO5.bys
    go_wp2
    go_ret
    exact ⟨rfl, h5⟩
  · have hl' : 4000 < len := by omega
    clear hl ha
    go_enter Try.func6, Try.ntmps6
    go_wp2_with fail
    refine (alive_any w).mono ?_
    rintro e w1 ⟨rfl, hB1⟩
    go_wp2
    go_ret
    exact ⟨rfl, hB1⟩
end Go.Proofs.Ythcijpfpkainhaa
