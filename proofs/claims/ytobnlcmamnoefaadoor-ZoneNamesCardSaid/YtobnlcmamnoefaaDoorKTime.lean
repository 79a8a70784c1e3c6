/- Contracts: hasTime, Instant, At. -/
import Derived.Test.YtobnlcmamnoefaaDoorKNext
import Derived.Test.YtobnlcmamnoefaaDoorKOpen
set_option linter.unusedVariables false
set_option linter.unusedSimpArgs false
namespace Go.Proofs.YtobnlcmamnoefaaDoor
open Go.RowKit Go.Shelf
def TimeIs (h mi s : Int) : Prop := (0 ≤ h ∧ h < 24) ∧ (0 ≤ mi ∧ mi < 60) ∧ (0 ≤ s ∧ s < 60)
instance (h mi s : Int) : Decidable (TimeIs h mi s) := by unfold TimeIs; infer_instance
theorem hasTime_any (y m d h mi s : Int) (w : World) :
    Calls Tryd.prog 44 #[momV y m d h mi s] w fun e w' => e = .returned (.bool (decide (TimeIs h mi s))) ∧ Below w.heap.size w w' := by
  unfold TimeIs
  by_cases c1 : 0 ≤ h ∧ h < 24
  · by_cases c2 : 0 ≤ mi ∧ mi < 60
    · have g1 := Lib.hid (show decide (0 ≤ h ∧ h < 24) = true from decide_eq_true c1)
      have g2 := Lib.hid (show decide (0 ≤ mi ∧ mi < 60) = true from decide_eq_true c2)
      rw [show decide ((0 ≤ h ∧ h < 24) ∧ (0 ≤ mi ∧ mi < 60) ∧ 0 ≤ s ∧ s < 60) = decide (0 ≤ s ∧ s < 60) by simp [c1, c2]]
      obtain ⟨b3, hb3⟩ : ∃ b, b = decide (0 ≤ s ∧ s < 60) := ⟨_, rfl⟩
      have g3 := Lib.hid hb3.symm
      rw [← hb3]
      clear c1 c2 hb3
      go_enter Tryd.func44, Tryd.ntmps44
      go_wp2_with (go_at_call 56; refine (isBelow_any _ _ _).mono ?_; rintro e w' ⟨rfl, rfl⟩; first | rw [g1.out] | rw [g2.out] | rw [g3.out])
      go_ret
      exact ⟨rfl, (Below.refl _ w).alloc (Nat.le_refl _) _⟩
    · have g1 := Lib.hid (show decide (0 ≤ h ∧ h < 24) = true from decide_eq_true c1)
      have g2 := Lib.hid (show decide (0 ≤ mi ∧ mi < 60) = false from decide_eq_false c2)
      rw [show decide ((0 ≤ h ∧ h < 24) ∧ (0 ≤ mi ∧ mi < 60) ∧ 0 ≤ s ∧ s < 60) = false from decide_eq_false (by omega)]
      clear c1 c2
      go_enter Tryd.func44, Tryd.ntmps44
      go_wp2_with (go_at_call 56; refine (isBelow_any _ _ _).mono ?_; rintro e w' ⟨rfl, rfl⟩; first | rw [g1.out] | rw [g2.out])
      go_ret
      exact ⟨rfl, (Below.refl _ w).alloc (Nat.le_refl _) _⟩
  · have g1 := Lib.hid (show decide (0 ≤ h ∧ h < 24) = false from decide_eq_false c1)
    rw [show decide ((0 ≤ h ∧ h < 24) ∧ (0 ≤ mi ∧ mi < 60) ∧ 0 ≤ s ∧ s < 60) = false from decide_eq_false (by omega)]
    clear c1
    go_enter Tryd.func44, Tryd.ntmps44
    go_wp2_with (go_at_call 56; refine (isBelow_any _ _ _).mono ?_; rintro e w' ⟨rfl, rfl⟩; rw [g1.out])
    go_ret
    exact ⟨rfl, (Below.refl _ w).alloc (Nat.le_refl _) _⟩
def MomIs (y m d h mi s : Int) : Prop := May y m d ∧ TimeIs h mi s
instance (y m d h mi s : Int) : Decidable (MomIs y m d h mi s) := by unfold MomIs; infer_instance
def secOf (y m d h mi s : Int) : Int := dayOf y m d * 86400 + (h * 3600 + mi * 60 + s)
def instV (y m d h mi s : Int) : Int := if MomIs y m d h mi s then secOf y m d h mi s else 0
def momE (y m d h mi s : Int) : Int := if MomIs y m d h mi s then 0 else 60
theorem instant_any (y m d h mi s : Int) (w : World) (hT : Tabs w) :
    Calls Tryd.prog 28 #[momV y m d h mi s] w fun e w' => e = .returned (.tuple #[.int .i64 (instV y m d h mi s), .int .i64 (momE y m d h mi s)]) ∧ Below w.heap.size w w' := by
  have hb0 := (Below.refl _ w).alloc (Nat.le_refl _) (.cells #[.int .i64 y, .int .i64 m, .int .i64 d, .int .i64 h, .int .i64 mi, .int .i64 s] 44)
  have hr := heap_alloc_new w (.cells #[.int .i64 y, .int .i64 m, .int .i64 d, .int .i64 h, .int .i64 mi, .int .i64 s] 44)
  have hT1 := hT.next hb0
  have HB0 := Lib.hid hb0
  have HR := Lib.hid hr
  have HT1 := Lib.hid hT1
  clear hb0 hr hT hT1
  by_cases c1 : May y m d
  · have hdb := day_bounds c1
    have hcd := day_yes y m d _ HT1.out c1
    obtain ⟨N, hN⟩ : ∃ N, N = dayOf y m d := ⟨_, rfl⟩
    rw [← hN] at hdb hcd
    have HC := Lib.hid hcd
    clear hcd
    by_cases c2 : TimeIs h mi s
    · have hg := Lib.hid (show decide (TimeIs h mi s) = true from decide_eq_true c2)
      unfold instV momE
      rw [if_pos ⟨c1, c2⟩, if_pos ⟨c1, c2⟩]
      unfold secOf
      rw [← hN]
      obtain ⟨⟨t1, t2⟩, ⟨t3, t4⟩, t5, t6⟩ := c2
      clear c1 hN
      go_enter Tryd.func28, Tryd.ntmps28
      go_wp2_with fail
      refine HC.out.mono ?_
      rintro e w1 ⟨rfl, hB1⟩
      have hr1 := (hB1.block w.heap.size (by simp)).trans HR.out
      have HB1 := Lib.hid (HB0.out.trans (hB1.mono (by simp)))
      have a0 : w1.cell? ⟨w.heap.size, 0, none⟩ = some (.int .i64 y) := cell_of_row w1 _ 0 _ _ _ hr1
      have a1 : w1.cell? ⟨w.heap.size, 1, none⟩ = some (.int .i64 m) := cell_of_row w1 _ 1 _ _ _ hr1
      have a2 : w1.cell? ⟨w.heap.size, 2, none⟩ = some (.int .i64 d) := cell_of_row w1 _ 2 _ _ _ hr1
      have a3 : w1.cell? ⟨w.heap.size, 3, none⟩ = some (.int .i64 h) := cell_of_row w1 _ 3 _ _ _ hr1
      have a4 : w1.cell? ⟨w.heap.size, 4, none⟩ = some (.int .i64 mi) := cell_of_row w1 _ 4 _ _ _ hr1
      have a5 : w1.cell? ⟨w.heap.size, 5, none⟩ = some (.int .i64 s) := cell_of_row w1 _ 5 _ _ _ hr1
      have hlt : w.heap.size < w1.heap.size := (Array.getElem?_eq_some_iff.1 hr1).1
      have HR1 := Lib.hid hr1
      clear hB1 hr1 HC
      go_wp2_with fail
      refine (hasTime_any _ _ _ _ _ _ _).mono ?_
      rintro e w2 ⟨rfl, hB2⟩
      rw [hg.out]
      have hr2 := (hB2.block w.heap.size hlt).trans HR1.out
      have HB2 := Lib.hid (HB1.out.trans (hB2.mono HB1.out.size))
      clear a0 a1 a2 a3 a4 a5
      have a3 : w2.cell? ⟨w.heap.size, 3, none⟩ = some (.int .i64 h) := cell_of_row w2 _ 3 _ _ _ hr2
      have a4 : w2.cell? ⟨w.heap.size, 4, none⟩ = some (.int .i64 mi) := cell_of_row w2 _ 4 _ _ _ hr2
      have a5 : w2.cell? ⟨w.heap.size, 5, none⟩ = some (.int .i64 s) := cell_of_row w2 _ 5 _ _ _ hr2
      clear hB2 hr2
      go_wp2
      go_ret2
      exact ⟨rfl, HB2.out⟩
    · have hg := Lib.hid (show decide (TimeIs h mi s) = false from decide_eq_false c2)
      unfold instV momE
      rw [if_neg (fun h => c2 h.2), if_neg (fun h => c2 h.2)]
      clear c1 hN c2
      go_enter Tryd.func28, Tryd.ntmps28
      go_wp2_with fail
      refine HC.out.mono ?_
      rintro e w1 ⟨rfl, hB1⟩
      have hr1 := (hB1.block w.heap.size (by simp)).trans HR.out
      have HB1 := Lib.hid (HB0.out.trans (hB1.mono (by simp)))
      have a0 : w1.cell? ⟨w.heap.size, 0, none⟩ = some (.int .i64 y) := cell_of_row w1 _ 0 _ _ _ hr1
      have a1 : w1.cell? ⟨w.heap.size, 1, none⟩ = some (.int .i64 m) := cell_of_row w1 _ 1 _ _ _ hr1
      have a2 : w1.cell? ⟨w.heap.size, 2, none⟩ = some (.int .i64 d) := cell_of_row w1 _ 2 _ _ _ hr1
      have a3 : w1.cell? ⟨w.heap.size, 3, none⟩ = some (.int .i64 h) := cell_of_row w1 _ 3 _ _ _ hr1
      have a4 : w1.cell? ⟨w.heap.size, 4, none⟩ = some (.int .i64 mi) := cell_of_row w1 _ 4 _ _ _ hr1
      have a5 : w1.cell? ⟨w.heap.size, 5, none⟩ = some (.int .i64 s) := cell_of_row w1 _ 5 _ _ _ hr1
      clear hB1 hr1 HC
      go_wp2_with fail
      refine (hasTime_any _ _ _ _ _ _ _).mono ?_
      rintro e w2 ⟨rfl, hB2⟩
      rw [hg.out]
      have HB2 := Lib.hid (HB1.out.trans (hB2.mono HB1.out.size))
      clear hB2
      go_wp2
      go_ret2
      exact ⟨rfl, HB2.out⟩
  · have hcd := day_no y m d _ HT1.out c1
    have HC := Lib.hid hcd
    unfold instV momE
    rw [if_neg (fun h => c1 h.1), if_neg (fun h => c1 h.1)]
    clear hcd c1
    go_enter Tryd.func28, Tryd.ntmps28
    go_wp2_with fail
    refine HC.out.mono ?_
    rintro e w1 ⟨rfl, hB1⟩
    have HB1 := Lib.hid (HB0.out.trans (hB1.mono (by simp)))
    clear hB1 HC
    go_wp2
    go_ret2
    exact ⟨rfl, HB1.out⟩
theorem results_at {y m d h mi s e : Int} {b : Nat} {tmps : Array Value} {w : World} (h2 : tmps.getD 2 undef = .pointer (some ⟨b, 0, none⟩)) (h3 : tmps.getD 3 undef = .int .i64 e)
    (hb : w.heap[b]? = some (.cells #[.int .i64 y, .int .i64 m, .int .i64 d, .int .i64 h, .int .i64 mi, .int .i64 s] 44 (0, 0))) : (results Tryd.f29 tmps).run Tryd.prog w = .ok (.tuple #[momV y m d h mi s, .int .i64 e]) w := by
  have c0 : w.cell? ⟨b, 0, none⟩ = some (.int .i64 y) := cell_of_row w b 0 _ _ _ hb
  have c1 : w.cell? ⟨b, 1, none⟩ = some (.int .i64 m) := cell_of_row w b 1 _ _ _ hb
  have c2 : w.cell? ⟨b, 2, none⟩ = some (.int .i64 d) := cell_of_row w b 2 _ _ _ hb
  have c3 : w.cell? ⟨b, 3, none⟩ = some (.int .i64 h) := cell_of_row w b 3 _ _ _ hb
  have c4 : w.cell? ⟨b, 4, none⟩ = some (.int .i64 mi) := cell_of_row w b 4 _ _ _ hb
  have c5 : w.cell? ⟨b, 5, none⟩ = some (.int .i64 s) := cell_of_row w b 5 _ _ _ hb
  simp only [Array.getD_eq_getD_getElem?] at h2 h3
  simp [results, Tryd.results29, go_sem, h2, h3, c0, c1, c2, c3, c4, c5, momV]
theorem at_no (t : Int) (h : ¬ (0 ≤ t ∧ t < 253402300800)) (w : World) :
    Calls Tryd.prog 29 #[.int .i64 t] w fun e w' => e = .returned (.tuple #[momV 0 0 0 0 0 0, .int .i64 60]) ∧ Below w.heap.size w w' := by
  by_cases h0 : t < 0
  · go_enter Tryd.func29, Tryd.ntmps29
    go_wp2
    refine bodyPost_ret (results_at rfl rfl (heap_alloc_new w _)) rfl ?_
    exact ⟨rfl, (Below.refl _ w).alloc (Nat.le_refl _) _⟩
  · have h1 : 253402300800 ≤ t := by omega
    go_enter Tryd.func29, Tryd.ntmps29
    go_wp2
    refine bodyPost_ret (results_at rfl rfl (heap_alloc_new w _)) rfl ?_
    exact ⟨rfl, (Below.refl _ w).alloc (Nat.le_refl _) _⟩
set_option maxRecDepth 100000 in
theorem at_yes (t : Int) (h0 : 0 ≤ t) (h1 : t < 253402300800) (y m d : Int) (hi : IsDate (t / 86400) y m d) (w : World) (hT : Tabs w) :
    Calls Tryd.prog 29 #[.int .i64 t] w fun e w' => e = .returned (.tuple #[momV y m d (t % 86400 / 3600) (t % 3600 / 60) (t % 60), .int .i64 0]) ∧ Below w.heap.size w w' := by
  have hT1 := hT.next ((Below.refl _ w).alloc (Nat.le_refl _) (.cells #[.int .i64 0, .int .i64 0, .int .i64 0, .int .i64 0, .int .i64 0, .int .i64 0] 44))
  have hr := heap_alloc_new w (.cells #[.int .i64 0, .int .i64 0, .int .i64 0, .int .i64 0, .int .i64 0, .int .i64 0] 44)
  have HR := Lib.hid hr
  have HC := Lib.hid (of_is _ y m d hi _ hT1)
  have HB0 := Lib.hid ((Below.refl _ w).alloc (Nat.le_refl _) (.cells #[.int .i64 0, .int .i64 0, .int .i64 0, .int .i64 0, .int .i64 0, .int .i64 0] 44))
  clear hT hT1 hr hi
  go_enter Tryd.func29, Tryd.ntmps29
  go_wp2_with fail
  refine HC.out.mono ?_
  rintro e w1 ⟨rfl, hB1⟩
  have hr1 := (hB1.block w.heap.size (by simp)).trans HR.out
  have hlt : w.heap.size < w1.heap.size := (Array.getElem?_eq_some_iff.1 hr1).1
  have HB1 := Lib.hid (HB0.out.trans (hB1.mono (by simp)))
  have a0 : w1.cell? ⟨w.heap.size, 0, none⟩ = some (.int .i64 0) := cell_of_row w1 _ 0 _ _ _ hr1
  have a1 : w1.cell? ⟨w.heap.size, 1, none⟩ = some (.int .i64 0) := cell_of_row w1 _ 1 _ _ _ hr1
  have a2 : w1.cell? ⟨w.heap.size, 2, none⟩ = some (.int .i64 0) := cell_of_row w1 _ 2 _ _ _ hr1
  have a3 : w1.cell? ⟨w.heap.size, 3, none⟩ = some (.int .i64 0) := cell_of_row w1 _ 3 _ _ _ hr1
  have a4 : w1.cell? ⟨w.heap.size, 4, none⟩ = some (.int .i64 0) := cell_of_row w1 _ 4 _ _ _ hr1
  have a5 : w1.cell? ⟨w.heap.size, 5, none⟩ = some (.int .i64 0) := cell_of_row w1 _ 5 _ _ _ hr1
  have f0 := frozen_of_row w1 w.heap.size 0 _ _ hr1
  have f1 := frozen_of_row w1 w.heap.size 1 _ _ hr1
  have f2 := frozen_of_row w1 w.heap.size 2 _ _ hr1
  have f3 := frozen_of_row w1 w.heap.size 3 _ _ hr1
  have f4 := frozen_of_row w1 w.heap.size 4 _ _ hr1
  have f5 := frozen_of_row w1 w.heap.size 5 _ _ hr1
  have HR1 := Lib.hid hr1
  clear hB1 hr1 HC
  go_wp2
  have hrow := (heap_setCell_same _ w.heap.size 5 _ _ (.int .i64 (t % 60)) (heap_setCell_same _ w.heap.size 4 _ _ (.int .i64 (t % 3600 / 60)) (heap_setCell_same _ w.heap.size 3 _ _ (.int .i64 (t % 86400 / 3600)) (heap_setCell_same _ w.heap.size 2 _ _ (.int .i64 d) (heap_setCell_same _ w.heap.size 1 _ _ (.int .i64 m) (heap_setCell_same _ w.heap.size 0 _ _ (.int .i64 y) HR1.out))))))
  have hbel := ((((((HB1.out.setCell (p := ⟨w.heap.size, 0, none⟩) (by simp) (.int .i64 y)).setCell (p := ⟨w.heap.size, 1, none⟩) (by simp) (.int .i64 m)).setCell (p := ⟨w.heap.size, 2, none⟩) (by simp) (.int .i64 d)).setCell (p := ⟨w.heap.size, 3, none⟩) (by simp) (.int .i64 (t % 86400 / 3600))).setCell (p := ⟨w.heap.size, 4, none⟩) (by simp) (.int .i64 (t % 3600 / 60))).setCell (p := ⟨w.heap.size, 5, none⟩) (by simp) (.int .i64 (t % 60)))
  refine bodyPost_ret (results_at rfl rfl (heap_old hrow _)) rfl ?_
  exact ⟨rfl, hbel.alloc hbel.size _⟩
end Go.Proofs.YtobnlcmamnoefaaDoor
