/- The statement DaysNames, walked. -/
import Derived.Test.YtgedcfgmfhlkdaaDoorHNames
set_option linter.unusedVariables false
set_option linter.unusedSimpArgs false
namespace Go.Proofs.YtgedcfgmfhlkdaaDoor
open Go.RowKit Go.Shelf
set_option maxRecDepth 100000 in
set_option maxHeartbeats 4000000 in
theorem walk_names (w : World) (hT : Tabs w) :
    Calls Tryd.prog 5 #[] w fun e w' => e = .returned (.bool true) ∧ Below w.heap.size w w' := by
  have YB0 := Lib.hid (Below.refl w.heap.size w)
  have HT := Lib.hid hT
  clear hT
  go_enter Tryd.func5, Tryd.ntmps5
  have HC := Lib.hid (check_ho ⟨0, 0, 0, 0, 0, 0⟩ 80 n_c1 w (HT.out.next YB0.out))
  go_wp2_with fail
  refine HC.out.mono ?_
  rintro e w1 ⟨rfl, hBn⟩
  have YB1 := Lib.hid (YB0.out.trans (hBn.mono YB0.out.size))
  clear YB0 hBn HC
  have HC := Lib.hid (check_ho ⟨1, 0, 2, 30, 0, 0⟩ 80 n_c2 w1 (HT.out.next YB1.out))
  go_wp2_with fail
  refine HC.out.mono ?_
  rintro e w2 ⟨rfl, hBn⟩
  have YB2 := Lib.hid (YB1.out.trans (hBn.mono YB1.out.size))
  clear YB1 hBn HC
  have HC := Lib.hid (check_ho ⟨1, 0, 2, 29, 0, 0⟩ 0 n_c3 w2 (HT.out.next YB2.out))
  go_wp2_with fail
  refine HC.out.mono ?_
  rintro e w3 ⟨rfl, hBn⟩
  have YB3 := Lib.hid (YB2.out.trans (hBn.mono YB2.out.size))
  clear YB2 hBn HC
  have HC := Lib.hid (check_se ⟨1, 2, 29⟩ 80 n_c4 w3 (HT.out.next YB3.out))
  go_wp2_with fail
  refine HC.out.mono ?_
  rintro e w4 ⟨rfl, hBn⟩
  have YB4 := Lib.hid (YB3.out.trans (hBn.mono YB3.out.size))
  clear YB3 hBn HC
  have HC := Lib.hid (check_se2 ⟨1, 2, 2⟩ ⟨2, 2, 2⟩ 80 n_c5 w4 (HT.out.next YB4.out))
  go_wp2_with fail
  refine HC.out.mono ?_
  rintro e w5 ⟨rfl, hBn⟩
  have YB5 := Lib.hid (YB4.out.trans (hBn.mono YB4.out.size))
  clear YB4 hBn HC
  have HC := Lib.hid (few_any w5)
  go_wp2_with fail
  refine HC.out.mono ?_
  rintro e v5 ⟨rfl, hHf, hSf, hBn⟩
  have hbf := YB5.out.trans (hBn.mono YB5.out.size)
  have HC2 := Lib.hid (kind_no _ 3 3 _ 2 2 fewH fewS (-1) few_cal (by omega) v5 hHf hSf (HT.out.next hbf) (by unfold maxLen; omega) (by unfold maxLen; omega))
  have YF := Lib.hid hbf
  clear HC YB5 hBn hbf hHf hSf
  go_wp2_with fail
  refine HC2.out.mono ?_
  rintro e w6 ⟨rfl, hBn⟩
  have YB6 := Lib.hid (YF.out.trans (hBn.mono YF.out.size))
  clear YF hBn HC2
  have HC := Lib.hid (easter_no 1969 (by omega) w6)
  go_wp2_with fail
  refine HC.out.mono ?_
  rintro e w7 ⟨rfl, hBn⟩
  have YB7 := Lib.hid (YB6.out.trans (hBn.mono YB6.out.size))
  clear YB6 hBn HC
  have hb8 := YB7.out.alloc YB7.out.size (.cells #[.int .i64 0, .int .i64 0, .int .i64 0] 39)
  go_wp2_with fail
  obtain ⟨w8, hw8⟩ : ∃ X, w7.alloc (.cells #[.int .i64 0, .int .i64 0, .int .i64 0] 39) = X := ⟨_, rfl⟩
  rw [hw8] at hb8 ⊢
  have YB8 := Lib.hid hb8
  clear hb8 YB7 hw8
  have HC := Lib.hid (few_any w8)
  refine HC.out.mono ?_
  rintro e v8 ⟨rfl, hHf, hSf, hBn⟩
  have hbf := YB8.out.trans (hBn.mono YB8.out.size)
  have HC2 := Lib.hid (next_nine _ 3 3 _ 2 2 fewH fewS few_cal v8 hHf hSf (HT.out.next hbf) (by unfold maxLen; omega) (by unfold maxLen; omega))
  have YF := Lib.hid hbf
  clear HC YB8 hBn hbf hHf hSf
  go_wp2_with fail
  refine HC2.out.mono ?_
  rintro e w9 ⟨rfl, hBn⟩
  have YB9 := Lib.hid (YF.out.trans (hBn.mono YF.out.size))
  clear YF hBn HC2
  have HC := Lib.hid (aliveD_any w9 (HT.out.next YB9.out))
  go_wp2_with fail
  refine HC.out.mono ?_
  rintro e w10 ⟨rfl, hBn⟩
  have YB10 := Lib.hid (YB9.out.trans (hBn.mono YB9.out.size))
  clear YB9 hBn HC
  have HC := Lib.hid (kindF_any 20598 2026 5 25 n_d1 w10 (HT.out.next YB10.out))
  rw [n_k1] at HC
  go_wp2_with fail
  refine HC.out.mono ?_
  rintro e w11 ⟨rfl, hBn⟩
  have YB11 := Lib.hid (YB10.out.trans (hBn.mono YB10.out.size))
  clear YB10 hBn HC
  have HC := Lib.hid (kindF_any 20597 2026 5 24 n_d2 w11 (HT.out.next YB11.out))
  rw [n_k2] at HC
  go_wp2_with fail
  refine HC.out.mono ?_
  rintro e w12 ⟨rfl, hBn⟩
  have YB12 := Lib.hid (YB11.out.trans (hBn.mono YB11.out.size))
  clear YB11 hBn HC
  have HC := Lib.hid (seasonF_d 20543 2026 3 31 2 n_d3 n_s1 w12 (HT.out.next YB12.out))
  go_wp2_with fail
  refine HC.out.mono ?_
  rintro e w13 ⟨rfl, hBn⟩
  have YB13 := Lib.hid (YB12.out.trans (hBn.mono YB12.out.size))
  clear YB12 hBn HC
  have HC := Lib.hid (seasonF_d 20544 2026 4 1 1 n_d4 n_s2 w13 (HT.out.next YB13.out))
  go_wp2_with fail
  refine HC.out.mono ?_
  rintro e w14 ⟨rfl, hBn⟩
  have YB14 := Lib.hid (YB13.out.trans (hBn.mono YB13.out.size))
  clear YB13 hBn HC
  have HC := Lib.hid (seasonF_d 20727 2026 10 1 2 n_d5 n_s3 w14 (HT.out.next YB14.out))
  go_wp2_with fail
  refine HC.out.mono ?_
  rintro e w15 ⟨rfl, hBn⟩
  have YB15 := Lib.hid (YB14.out.trans (hBn.mono YB14.out.size))
  clear YB14 hBn HC
  have HC := Lib.hid (few_any w15)
  go_wp2_with fail
  refine HC.out.mono ?_
  rintro e v15 ⟨rfl, hHf, hSf, hBn⟩
  have hbf := YB15.out.trans (hBn.mono YB15.out.size)
  have HC2 := Lib.hid (checkD_any _ 3 3 _ 2 2 fewH fewS  v15 hHf hSf (HT.out.next hbf) (by unfold maxLen; omega) (by unfold maxLen; omega))
  rw [calE_yes few_cal] at HC2
  have YF := Lib.hid hbf
  clear HC YB15 hBn hbf hHf hSf
  go_wp2_with fail
  refine HC2.out.mono ?_
  rintro e w16 ⟨rfl, hBn⟩
  have YB16 := Lib.hid (YF.out.trans (hBn.mono YF.out.size))
  clear YF hBn HC2
  go_wp2
  go_ret
  exact ⟨rfl, YB16.out⟩
end Go.Proofs.YtgedcfgmfhlkdaaDoor
