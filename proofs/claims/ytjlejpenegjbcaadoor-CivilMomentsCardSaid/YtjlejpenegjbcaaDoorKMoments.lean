/- The walk of the statement CivilMoments. -/
import Derived.Test.YtjlejpenegjbcaaDoorKDays
set_option linter.unusedVariables false
set_option linter.unusedSimpArgs false
namespace Go.Proofs.YtjlejpenegjbcaaDoor
open Go.RowKit Go.Shelf
set_option maxRecDepth 100000 in
set_option maxHeartbeats 4000000 in
theorem moments_in (y m d h mi s t : Int) (h0 : 0 ≤ t) (h1 : t < 253402300800) (a b c : Int) (hi : IsDate (t / 86400) a b c) (w : World) (hT : Tabs w) :
    Calls Tryd.prog 4 #[momV y m d h mi s, .int .i64 t] w fun e w' => e = .returned (.bool true) ∧ Below w.heap.size w w' := by
  have hb0 := (Below.refl _ w).alloc (Nat.le_refl _) (.cells #[.int .i64 y, .int .i64 m, .int .i64 d, .int .i64 h, .int .i64 mi, .int .i64 s] 40)
  have hr := heap_alloc_new w (.cells #[.int .i64 y, .int .i64 m, .int .i64 d, .int .i64 h, .int .i64 mi, .int .i64 s] 40)
  have HT := Lib.hid (show ∀ X, Below w.heap.size w X → Tabs X from fun X hX => hT.next hX)
  have hrday := fun X => rday_any y m d X
  have hclk := fun X => rclock_any h mi s X
  have hins := fun X => instant_any y m d h mi s X
  obtain ⟨E, hE⟩ : ∃ E, E = mayE y m d := ⟨_, rfl⟩
  obtain ⟨N, hN⟩ : ∃ E, E = dayE y m d := ⟨_, rfl⟩
  obtain ⟨C, hC⟩ : ∃ E, E = decide (TimeIs h mi s) := ⟨_, rfl⟩
  obtain ⟨V, hV⟩ : ∃ E, E = instV y m d h mi s := ⟨_, rfl⟩
  obtain ⟨F, hF⟩ : ∃ E, E = momE y m d h mi s := ⟨_, rfl⟩
  have hcase : (E = 0 ∧ C = true ∧ V = N * 86400 + h * 3600 + mi * 60 + s ∧ F = 0 ∧ (0 ≤ N ∧ N ≤ 2932896) ∧ (0 ≤ h ∧ h < 24) ∧ (0 ≤ mi ∧ mi < 60) ∧ (0 ≤ s ∧ s < 60)) ∨ (E = 0 ∧ C = false ∧ V = 0 ∧ F = 60) ∨ (E = 60 ∧ V = 0 ∧ F = 60) := by
    rw [hE, hC, hV, hF, hN]
    unfold mayE instV momE dayE
    by_cases c1 : May y m d
    · by_cases c2 : TimeIs h mi s
      · have := day_bounds c1
        have c12 : MomIs y m d h mi s := ⟨c1, c2⟩
        rw [if_pos c1, if_pos c1, if_pos c12, if_pos c12]
        exact .inl ⟨rfl, decide_eq_true c2, by unfold secOf; omega, rfl, this, c2.1, c2.2.1, c2.2.2⟩
      · rw [if_pos c1, if_neg (fun h : MomIs y m d h mi s => c2 h.2), if_neg (fun h : MomIs y m d h mi s => c2 h.2)]
        exact .inr (.inl ⟨rfl, decide_eq_false c2, rfl, rfl⟩)
    · rw [if_neg c1, if_neg (fun h : MomIs y m d h mi s => c1 h.1), if_neg (fun h : MomIs y m d h mi s => c1 h.1)]
      exact .inr (.inr ⟨rfl, rfl, rfl⟩)
  simp only [← hE, ← hN] at hrday
  simp only [← hC] at hclk
  simp only [← hV, ← hF] at hins
  have RDAY := Lib.hid hrday
  have CLK := Lib.hid hclk
  have INS := Lib.hid hins
  have HB0 := Lib.hid hb0
  have HR0 := Lib.hid hr
  have HAT := Lib.hid (fun X hX => at_yes t h0 h1 a b c hi X hX)
  have ROF := Lib.hid (fun X => rof_is (t / 86400) a b c hi X)
  clear hrday hclk hins hE hN hC hV hF hT hb0 hr hi
  rcases hcase with ⟨rfl, rfl, rfl, rfl, ⟨n0, n1⟩, ⟨k0, k1⟩, ⟨k2, k3⟩, k4, k5⟩ | ⟨rfl, rfl, rfl, rfl⟩ | ⟨rfl, rfl, rfl⟩
  all_goals
    go_enter Tryd.func4, Tryd.ntmps4
    go_wp2_with fail
    refine (RDAY.out _).mono ?_
    rintro e w' ⟨rfl, rfl⟩
    go_wp2_with (first | (go_at_call 22; refine (CLK.out _).mono ?_; rintro e w' ⟨rfl, rfl⟩) | fail)
    refine (INS.out _ (HT.out _ HB0.out)).mono ?_
    rintro e w1 ⟨rfl, hB1⟩
    have hr1 := (hB1.block w.heap.size (by simp)).trans HR0.out
    have HB1 := Lib.hid (HB0.out.trans (hB1.mono (by simp)))
    have a3 : w1.cell? ⟨w.heap.size, 3, none⟩ = some (.int .i64 h) := cell_of_row w1 _ 3 _ _ _ hr1
    have a4 : w1.cell? ⟨w.heap.size, 4, none⟩ = some (.int .i64 mi) := cell_of_row w1 _ 4 _ _ _ hr1
    have a5 : w1.cell? ⟨w.heap.size, 5, none⟩ = some (.int .i64 s) := cell_of_row w1 _ 5 _ _ _ hr1
    clear hB1 hr1
    go_wp2_with fail
    refine (HAT.out _ (HT.out _ HB1.out)).mono ?_
    rintro e w2 ⟨rfl, hB2⟩
    have HB2 := Lib.hid (HB1.out.trans (hB2.mono HB1.out.size))
    clear hB2 a3 a4 a5
    go_wp2_with (first | (go_at_call 15; refine (ROF.out _).mono ?_; rintro e w' ⟨rfl, rfl⟩))
    go_ret
    exact ⟨rfl, HB2.out.alloc HB2.out.size _⟩
set_option maxRecDepth 100000 in
set_option maxHeartbeats 4000000 in
theorem moments_out (y m d h mi s t : Int) (ht : ¬ (0 ≤ t ∧ t < 253402300800)) (w : World) (hT : Tabs w) :
    Calls Tryd.prog 4 #[momV y m d h mi s, .int .i64 t] w fun e w' => e = .returned (.bool true) ∧ Below w.heap.size w w' := by
  have hb0 := (Below.refl _ w).alloc (Nat.le_refl _) (.cells #[.int .i64 y, .int .i64 m, .int .i64 d, .int .i64 h, .int .i64 mi, .int .i64 s] 40)
  have hr := heap_alloc_new w (.cells #[.int .i64 y, .int .i64 m, .int .i64 d, .int .i64 h, .int .i64 mi, .int .i64 s] 40)
  have HT := Lib.hid (show ∀ X, Below w.heap.size w X → Tabs X from fun X hX => hT.next hX)
  have hrday := fun X => rday_any y m d X
  have hclk := fun X => rclock_any h mi s X
  have hins := fun X => instant_any y m d h mi s X
  obtain ⟨E, hE⟩ : ∃ E, E = mayE y m d := ⟨_, rfl⟩
  obtain ⟨N, hN⟩ : ∃ E, E = dayE y m d := ⟨_, rfl⟩
  obtain ⟨C, hC⟩ : ∃ E, E = decide (TimeIs h mi s) := ⟨_, rfl⟩
  obtain ⟨V, hV⟩ : ∃ E, E = instV y m d h mi s := ⟨_, rfl⟩
  obtain ⟨F, hF⟩ : ∃ E, E = momE y m d h mi s := ⟨_, rfl⟩
  have hcase : (E = 0 ∧ C = true ∧ V = N * 86400 + h * 3600 + mi * 60 + s ∧ F = 0 ∧ (0 ≤ N ∧ N ≤ 2932896) ∧ (0 ≤ h ∧ h < 24) ∧ (0 ≤ mi ∧ mi < 60) ∧ (0 ≤ s ∧ s < 60)) ∨ (E = 0 ∧ C = false ∧ V = 0 ∧ F = 60) ∨ (E = 60 ∧ V = 0 ∧ F = 60) := by
    rw [hE, hC, hV, hF, hN]
    unfold mayE instV momE dayE
    by_cases c1 : May y m d
    · by_cases c2 : TimeIs h mi s
      · have := day_bounds c1
        have c12 : MomIs y m d h mi s := ⟨c1, c2⟩
        rw [if_pos c1, if_pos c1, if_pos c12, if_pos c12]
        exact .inl ⟨rfl, decide_eq_true c2, by unfold secOf; omega, rfl, this, c2.1, c2.2.1, c2.2.2⟩
      · rw [if_pos c1, if_neg (fun h : MomIs y m d h mi s => c2 h.2), if_neg (fun h : MomIs y m d h mi s => c2 h.2)]
        exact .inr (.inl ⟨rfl, decide_eq_false c2, rfl, rfl⟩)
    · rw [if_neg c1, if_neg (fun h : MomIs y m d h mi s => c1 h.1), if_neg (fun h : MomIs y m d h mi s => c1 h.1)]
      exact .inr (.inr ⟨rfl, rfl, rfl⟩)
  simp only [← hE, ← hN] at hrday
  simp only [← hC] at hclk
  simp only [← hV, ← hF] at hins
  have RDAY := Lib.hid hrday
  have CLK := Lib.hid hclk
  have INS := Lib.hid hins
  have HB0 := Lib.hid hb0
  have HR0 := Lib.hid hr
  have HAT := Lib.hid (fun X (_ : Tabs X) => at_no t ht X)
  have htt : decide (t < 0) = true ∨ (decide (t < 0) = false ∧ decide (253402300800 ≤ t) = true) := by
    by_cases c : t < 0
    · exact .inl (decide_eq_true c)
    · exact .inr ⟨decide_eq_false c, decide_eq_true (by omega)⟩
  clear hrday hclk hins hE hN hC hV hF hT hb0 hr ht
  have HTT := Lib.hid htt
  clear htt
  rcases hcase with ⟨rfl, rfl, rfl, rfl, ⟨n0, n1⟩, ⟨k0, k1⟩, ⟨k2, k3⟩, k4, k5⟩ | ⟨rfl, rfl, rfl, rfl⟩ | ⟨rfl, rfl, rfl⟩
  all_goals
    rcases HTT.out with gt | ⟨gt, gt2⟩
    all_goals
      go_enter Tryd.func4, Tryd.ntmps4
      go_wp2_with fail
      refine (RDAY.out _).mono ?_
      rintro e w' ⟨rfl, rfl⟩
      go_wp2_with (first | (go_at_call 22; refine (CLK.out _).mono ?_; rintro e w' ⟨rfl, rfl⟩) | fail)
      refine (INS.out _ (HT.out _ HB0.out)).mono ?_
      rintro e w1 ⟨rfl, hB1⟩
      have hr1 := (hB1.block w.heap.size (by simp)).trans HR0.out
      have HB1 := Lib.hid (HB0.out.trans (hB1.mono (by simp)))
      have a3 : w1.cell? ⟨w.heap.size, 3, none⟩ = some (.int .i64 h) := cell_of_row w1 _ 3 _ _ _ hr1
      have a4 : w1.cell? ⟨w.heap.size, 4, none⟩ = some (.int .i64 mi) := cell_of_row w1 _ 4 _ _ _ hr1
      have a5 : w1.cell? ⟨w.heap.size, 5, none⟩ = some (.int .i64 s) := cell_of_row w1 _ 5 _ _ _ hr1
      clear hB1 hr1
      go_wp2_with fail
      refine (HAT.out _ (HT.out _ HB1.out)).mono ?_
      rintro e w2 ⟨rfl, hB2⟩
      have HB2 := Lib.hid (HB1.out.trans (hB2.mono HB1.out.size))
      clear hB2 a3 a4 a5
      go_wp2
      go_ret
      exact ⟨rfl, HB2.out.alloc HB2.out.size _⟩
theorem moments_any (y m d h mi s t : Int) (w : World) (hT : Tabs w) :
    Calls Tryd.prog 4 #[momV y m d h mi s, .int .i64 t] w fun e w' => e = .returned (.bool true) ∧ Below w.heap.size w w' := by
  by_cases ht : 0 ≤ t ∧ t < 253402300800
  · obtain ⟨a, b, c, hi⟩ := date_exists (t / 86400) (by omega) (by omega)
    exact moments_in y m d h mi s t ht.1 ht.2 a b c hi w hT
  · exact moments_out y m d h mi s t ht w hT
end Go.Proofs.YtjlejpenegjbcaaDoor
