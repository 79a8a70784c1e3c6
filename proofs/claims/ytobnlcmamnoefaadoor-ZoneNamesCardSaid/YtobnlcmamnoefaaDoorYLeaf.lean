/- Contracts of the program's small functions of layer 7: isFrom, isChange, isRule. -/
import Derived.Test.YtobnlcmamnoefaaDoorZMay
set_option linter.unusedVariables false
set_option linter.unusedSimpArgs false
namespace Go.Proofs.YtobnlcmamnoefaaDoor
open Go.RowKit Go.Shelf
theorem isFrom_any (n a b : Int) (w : World) :
    Calls Tryd.prog 31 #[.int .i64 n, .int .i64 a, .int .i64 b] w fun e w' => e = .returned (.bool (decide (a ≤ n ∧ n ≤ b))) ∧ w = w' := by
  by_cases h0 : a ≤ n <;> by_cases h1 : n ≤ b
  all_goals
    go_enter Tryd.func31, Tryd.ntmps31
    go_wp2
    go_ret
    exact ⟨by simp [h0, h1], rfl⟩
set_option maxRecDepth 100000 in
set_option maxHeartbeats 2000000 in
theorem isChange_any (m w n t : Int) (W : World) :
    Calls Tryd.prog 46 #[chV m w n t] W fun e w' => e = .returned (.bool (decide (ChIs m w n t))) ∧ Below W.heap.size W w' := by
  have HB := Lib.hid ((Below.refl _ W).alloc (Nat.le_refl _) (.cells #[.int .i64 m, .int .i64 w, .int .i64 n, .int .i64 t] 29))
  by_cases c1 : 1 ≤ m ∧ m ≤ 12
  · have g1 := Lib.hid (show decide (1 ≤ m ∧ m ≤ 12) = true from decide_eq_true c1)
    by_cases c2 : 1 ≤ w ∧ w ≤ 7
    · have g2 := Lib.hid (show decide (1 ≤ w ∧ w ≤ 7) = true from decide_eq_true c2)
      by_cases c3 : 1 ≤ n ∧ n ≤ 4
      · have g3 := Lib.hid (show decide (1 ≤ n ∧ n ≤ 4) = true from decide_eq_true c3)
        by_cases c4 : 0 ≤ t ∧ t ≤ 1439
        · have g4 := Lib.hid (show decide (0 ≤ t ∧ t ≤ 1439) = true from decide_eq_true c4)
          rw [show decide (ChIs m w n t) = true from decide_eq_true (by unfold ChIs; omega)]
          clear c1 c2 c3 c4
          go_enter Tryd.func46, Tryd.ntmps46
          go_wp2_with (go_at_call 31; refine (isFrom_any _ _ _ _).mono ?_; rintro e w' ⟨rfl, rfl⟩; first | rw [g1.out] | rw [g2.out] | rw [g3.out] | rw [g4.out])
          go_ret
          exact ⟨rfl, HB.out⟩
        · have g4 := Lib.hid (show decide (0 ≤ t ∧ t ≤ 1439) = false from decide_eq_false c4)
          rw [show decide (ChIs m w n t) = false from decide_eq_false (by unfold ChIs; omega)]
          clear c1 c2 c3 c4
          go_enter Tryd.func46, Tryd.ntmps46
          go_wp2_with (go_at_call 31; refine (isFrom_any _ _ _ _).mono ?_; rintro e w' ⟨rfl, rfl⟩; first | rw [g1.out] | rw [g2.out] | rw [g3.out] | rw [g4.out])
          go_ret
          exact ⟨rfl, HB.out⟩
      · have g3 := Lib.hid (show decide (1 ≤ n ∧ n ≤ 4) = false from decide_eq_false c3)
        by_cases c5 : n = -1
        · have g5 : (n == -1) = true := by simp [c5]
          by_cases c4 : 0 ≤ t ∧ t ≤ 1439
          · have g4 := Lib.hid (show decide (0 ≤ t ∧ t ≤ 1439) = true from decide_eq_true c4)
            rw [show decide (ChIs m w n t) = true from decide_eq_true (by unfold ChIs; omega)]
            clear c1 c2 c3 c5 c4
            go_enter Tryd.func46, Tryd.ntmps46
            go_wp2_with (go_at_call 31; refine (isFrom_any _ _ _ _).mono ?_; rintro e w' ⟨rfl, rfl⟩; first | rw [g1.out] | rw [g2.out] | rw [g3.out] | rw [g4.out])
            go_ret
            exact ⟨rfl, HB.out⟩
          · have g4 := Lib.hid (show decide (0 ≤ t ∧ t ≤ 1439) = false from decide_eq_false c4)
            rw [show decide (ChIs m w n t) = false from decide_eq_false (by unfold ChIs; omega)]
            clear c1 c2 c3 c5 c4
            go_enter Tryd.func46, Tryd.ntmps46
            go_wp2_with (go_at_call 31; refine (isFrom_any _ _ _ _).mono ?_; rintro e w' ⟨rfl, rfl⟩; first | rw [g1.out] | rw [g2.out] | rw [g3.out] | rw [g4.out])
            go_ret
            exact ⟨rfl, HB.out⟩
        · have g5 : (n == -1) = false := by simp [c5]
          rw [show decide (ChIs m w n t) = false from decide_eq_false (by unfold ChIs; omega)]
          clear c1 c2 c3 c5
          go_enter Tryd.func46, Tryd.ntmps46
          go_wp2_with (go_at_call 31; refine (isFrom_any _ _ _ _).mono ?_; rintro e w' ⟨rfl, rfl⟩; first | rw [g1.out] | rw [g2.out] | rw [g3.out])
          go_ret
          exact ⟨rfl, HB.out⟩
    · have g2 := Lib.hid (show decide (1 ≤ w ∧ w ≤ 7) = false from decide_eq_false c2)
      rw [show decide (ChIs m w n t) = false from decide_eq_false (by unfold ChIs; omega)]
      clear c1 c2
      go_enter Tryd.func46, Tryd.ntmps46
      go_wp2_with (go_at_call 31; refine (isFrom_any _ _ _ _).mono ?_; rintro e w' ⟨rfl, rfl⟩; first | rw [g1.out] | rw [g2.out])
      go_ret
      exact ⟨rfl, HB.out⟩
  · have g1 := Lib.hid (show decide (1 ≤ m ∧ m ≤ 12) = false from decide_eq_false c1)
    rw [show decide (ChIs m w n t) = false from decide_eq_false (by unfold ChIs; omega)]
    clear c1
    go_enter Tryd.func46, Tryd.ntmps46
    go_wp2_with (go_at_call 31; refine (isFrom_any _ _ _ _).mono ?_; rintro e w' ⟨rfl, rfl⟩; first | rw [g1.out])
    go_ret
    exact ⟨rfl, HB.out⟩
set_option maxRecDepth 100000 in
set_option maxHeartbeats 4000000 in
theorem isRule_any (r : Rl) (W : World) :
    Calls Tryd.prog 32 #[rlV r] W fun e w' => e = .returned (.bool (decide (RlIs r))) ∧ Below W.heap.size W w' := by
  obtain ⟨f, l, m1, w1, n1, t1, m2, w2, n2, t2, x⟩ := r
  have HB := Lib.hid ((Below.refl _ W).alloc (Nat.le_refl _) (.cells #[.int .i64 f, .int .i64 l, .int .i64 m1, .int .i64 w1, .int .i64 n1, .int .i64 t1, .int .i64 m2, .int .i64 w2, .int .i64 n2, .int .i64 t2, .int .i64 x] 31))
  have HG := Lib.hid (heap_alloc_new W (.cells #[.int .i64 f, .int .i64 l, .int .i64 m1, .int .i64 w1, .int .i64 n1, .int .i64 t1, .int .i64 m2, .int .i64 w2, .int .i64 n2, .int .i64 t2, .int .i64 x] 31))
  have HC1 := Lib.hid (fun X => isChange_any m1 w1 n1 t1 X)
  have HC2 := Lib.hid (fun X => isChange_any m2 w2 n2 t2 X)
  obtain ⟨RV, hRV⟩ : ∃ b, b = decide (RlIs ⟨f, l, m1, w1, n1, t1, m2, w2, n2, t2, x⟩) := ⟨_, rfl⟩
  show Calls Tryd.prog 32 #[.agg #[.int .i64 f, .int .i64 l, .int .i64 m1, .int .i64 w1, .int .i64 n1, .int .i64 t1, .int .i64 m2, .int .i64 w2, .int .i64 n2, .int .i64 t2, .int .i64 x]] W fun e w' => e = .returned (.bool (decide (RlIs ⟨f, l, m1, w1, n1, t1, m2, w2, n2, t2, x⟩))) ∧ Below W.heap.size W w'
  rw [← hRV]
  have hno : ∀ q : ¬ RlIs ⟨f, l, m1, w1, n1, t1, m2, w2, n2, t2, x⟩, RV = false := fun q => by rw [hRV]; exact decide_eq_false q
  have hyes : ∀ q : RlIs ⟨f, l, m1, w1, n1, t1, m2, w2, n2, t2, x⟩, RV = true := fun q => by rw [hRV]; exact decide_eq_true q
  clear hRV
  by_cases c1 : 1970 ≤ f ∧ f ≤ l
  · have g1 := Lib.hid (show decide (1970 ≤ f ∧ f ≤ l) = true from decide_eq_true c1)
    by_cases c2 : l ≤ 9999
    · by_cases c3 : 1 ≤ x ∧ x ≤ 7200
      · have g3 := Lib.hid (show decide (1 ≤ x ∧ x ≤ 7200) = true from decide_eq_true c3)
        by_cases e1 : ChIs m1 w1 n1 t1
        · have q1 := Lib.hid (show decide (ChIs m1 w1 n1 t1) = true from decide_eq_true e1)
          obtain ⟨b2, hb2⟩ : ∃ b, b = decide (ChIs m2 w2 n2 t2) := ⟨_, rfl⟩
          have hfin : b2 = RV := by
            by_cases e2 : ChIs m2 w2 n2 t2
            · rw [hb2, decide_eq_true e2]; exact (hyes ⟨⟨c1.1, c2, c1.2⟩, c3, e1, e2⟩).symm
            · rw [hb2, decide_eq_false e2]; exact (hno (fun z => e2 z.2.2.2)).symm
          obtain rfl := hfin
          have q2 := Lib.hid hb2.symm
          clear hyes hno e1 hb2 c1 c3
          go_enter Tryd.func32, Tryd.ntmps32
          go_wp2_with (go_at_call 31; refine (isFrom_any _ _ _ _).mono ?_; rintro e w' ⟨rfl, rfl⟩; first | rw [g1.out] | rw [g3.out])
          refine (HC1.out _).mono ?_
          rintro e w1' ⟨rfl, hB1⟩
          rw [q1.out]
          have hb1 := HB.out.trans (hB1.mono HB.out.size)
          have hg1 := (hB1.block W.heap.size (Array.getElem?_eq_some_iff.1 HG.out).1).trans HG.out
          have s6 : w1'.cell? ⟨W.heap.size, 6, none⟩ = some (.int .i64 m2) := cell_of_row _ _ 6 _ _ _ hg1
          have s7 : w1'.cell? ⟨W.heap.size, 7, none⟩ = some (.int .i64 w2) := cell_of_row _ _ 7 _ _ _ hg1
          have s8 : w1'.cell? ⟨W.heap.size, 8, none⟩ = some (.int .i64 n2) := cell_of_row _ _ 8 _ _ _ hg1
          have s9 : w1'.cell? ⟨W.heap.size, 9, none⟩ = some (.int .i64 t2) := cell_of_row _ _ 9 _ _ _ hg1
          have HB1 := Lib.hid hb1
          clear hB1 hb1 hg1
          go_wp2_with fail
          refine (HC2.out _).mono ?_
          rintro e w2' ⟨rfl, hB2⟩
          rw [q2.out]
          have HB2 := Lib.hid (HB1.out.trans (hB2.mono HB1.out.size))
          clear hB2 s6 s7 s8 s9
          go_wp2
          go_ret
          exact ⟨rfl, HB2.out⟩
        · have q1 := Lib.hid (show decide (ChIs m1 w1 n1 t1) = false from decide_eq_false e1)
          obtain rfl := hno (fun z => e1 z.2.2.1)
          clear hyes hno e1 c1 c3
          go_enter Tryd.func32, Tryd.ntmps32
          go_wp2_with (go_at_call 31; refine (isFrom_any _ _ _ _).mono ?_; rintro e w' ⟨rfl, rfl⟩; first | rw [g1.out] | rw [g3.out])
          refine (HC1.out _).mono ?_
          rintro e w1' ⟨rfl, hB1⟩
          rw [q1.out]
          have hb1 := HB.out.trans (hB1.mono HB.out.size)
          have hg1 := (hB1.block W.heap.size (Array.getElem?_eq_some_iff.1 HG.out).1).trans HG.out
          have HB1 := Lib.hid hb1
          clear hB1 hb1 hg1
          go_wp2
          go_ret
          exact ⟨rfl, HB1.out⟩
      · have g3 := Lib.hid (show decide (1 ≤ x ∧ x ≤ 7200) = false from decide_eq_false c3)
        obtain rfl := hno (fun z => by obtain ⟨⟨z1, z2, z3⟩, ⟨z4, z5⟩, z6, z7⟩ := z; exact c3 ⟨z4, z5⟩)
        clear hyes hno c1 c3
        go_enter Tryd.func32, Tryd.ntmps32
        go_wp2_with (go_at_call 31; refine (isFrom_any _ _ _ _).mono ?_; rintro e w' ⟨rfl, rfl⟩; first | rw [g1.out] | rw [g3.out])
        go_ret
        exact ⟨rfl, HB.out⟩
    · skip
      obtain rfl := hno (fun z => by obtain ⟨⟨z1, z2, z3⟩, ⟨z4, z5⟩, z6, z7⟩ := z; exact c2 z2)
      clear hyes hno c1
      go_enter Tryd.func32, Tryd.ntmps32
      go_wp2_with (go_at_call 31; refine (isFrom_any _ _ _ _).mono ?_; rintro e w' ⟨rfl, rfl⟩; first | rw [g1.out])
      go_ret
      exact ⟨rfl, HB.out⟩
  · have g1 := Lib.hid (show decide (1970 ≤ f ∧ f ≤ l) = false from decide_eq_false c1)
    obtain rfl := hno (fun z => by obtain ⟨⟨z1, z2, z3⟩, ⟨z4, z5⟩, z6, z7⟩ := z; exact c1 ⟨z1, z3⟩)
    clear hyes hno c1
    go_enter Tryd.func32, Tryd.ntmps32
    go_wp2_with (go_at_call 31; refine (isFrom_any _ _ _ _).mono ?_; rintro e w' ⟨rfl, rfl⟩; first | rw [g1.out])
    go_ret
    exact ⟨rfl, HB.out⟩
end Go.Proofs.YtobnlcmamnoefaaDoor
