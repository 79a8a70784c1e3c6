/- The chapter's first examples. -/
import Derived.Test.YtgedcfgmfhlkdaaDoorHFew
set_option linter.unusedVariables false
set_option linter.unusedSimpArgs false
namespace Go.Proofs.YtgedcfgmfhlkdaaDoor
open Go.RowKit Go.Shelf
set_option maxRecDepth 100000 in
set_option maxHeartbeats 2000000 in
theorem aliveD_any (w : World) (hT : Tabs w) :
    Calls Tryd.prog 26 #[] w fun e w' => e = .returned (.bool true) ∧ Below w.heap.size w w' := by
  have he := easter_yes 2026 (by omega) (by omega) w
  rw [e_2026.1, e_2026.2] at he
  have h1 := fun W hW => kindF_any 20549 2026 4 6 d_0406 W hW
  have h2 := fun W hW => kindF_any 20547 2026 4 4 d_0404 W hW
  have h3 := fun W hW => kindF_any 20550 2026 4 7 d_0407 W hW
  rw [k_0406] at h1
  rw [k_0404] at h2
  rw [k_0407] at h3
  have heq := eql_date 2026 4 5 2026 4 5
  simp only [BEq.rfl, Bool.and_self] at heq
  have HE := Lib.hid he
  have H1 := Lib.hid h1
  have H2 := Lib.hid h2
  have H3 := Lib.hid h3
  have HT := Lib.hid hT
  clear he h1 h2 h3 hT
  go_enter Tryd.func26, Tryd.ntmps26
  go_wp2_with (first
    | (go_at_call 20; refine HE.out.mono ?_; rintro e w1 ⟨rfl, hB1⟩; have HB1 := Lib.hid (hB1.alloc hB1.size (.cells #[.int .i64 2026, .int .i64 4, .int .i64 5] 39)); clear hB1)
    | (go_at_call 27; ((with_reducible refine (H1.out _ (HT.out.next HB1.out)).mono ?_)); rintro e w2 ⟨rfl, hB2⟩; have HB2 := Lib.hid (HB1.out.trans (hB2.mono HB1.out.size)); clear hB2)
    | (go_at_call 27; ((with_reducible refine (H2.out _ (HT.out.next HB2.out)).mono ?_)); rintro e w3 ⟨rfl, hB3⟩; have HB3 := Lib.hid (HB2.out.trans (hB3.mono HB2.out.size)); clear hB3)
    | (go_at_call 27; ((with_reducible refine (H3.out _ (HT.out.next HB3.out)).mono ?_)); rintro e w4 ⟨rfl, hB4⟩; have HB4 := Lib.hid (HB3.out.trans (hB4.mono HB3.out.size)); clear hB4))
  go_ret
  exact ⟨rfl, HB4.out⟩
end Go.Proofs.YtgedcfgmfhlkdaaDoor
