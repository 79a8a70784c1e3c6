/- Contracts of the document's functions on changes of a zone: change, at. -/
import Derived.Test.YtobnlcmamnoefaaDoorKRNth
set_option linter.unusedVariables false
set_option linter.unusedSimpArgs false
namespace Go.Proofs.YtobnlcmamnoefaaDoor
open Go.RowKit Go.Shelf
abbrev chV (m w n t : Int) : Value := .agg #[.int .i64 m, .int .i64 w, .int .i64 n, .int .i64 t]
def ChIs (m w n t : Int) : Prop := (1 ≤ m ∧ m ≤ 12) ∧ (1 ≤ w ∧ w ≤ 7) ∧ (n = -1 ∨ (1 ≤ n ∧ n ≤ 4)) ∧ (0 ≤ t ∧ t < 1440)
instance (m w n t : Int) : Decidable (ChIs m w n t) := by unfold ChIs; infer_instance
set_option maxRecDepth 100000 in
set_option maxHeartbeats 2000000 in
theorem rchange_any (m w n t : Int) (W : World) :
    Calls Tryd.prog 30 #[chV m w n t] W fun e w' => e = .returned (.bool (decide (ChIs m w n t))) ∧ Below W.heap.size W w' := by
  have HB := Lib.hid ((Below.refl _ W).alloc (Nat.le_refl _) (.cells #[.int .i64 m, .int .i64 w, .int .i64 n, .int .i64 t] 29))
  have hd : decide (ChIs m w n t) = (decide (1 ≤ m) && (decide (m ≤ 12) && (decide (1 ≤ w) && (decide (w ≤ 7) && ((n == -1) || (decide (1 ≤ n) && decide (n ≤ 4))) && (decide (0 ≤ t) && decide (t < 1440)))))) := by
    rw [Bool.eq_iff_iff, decide_eq_true_iff]; simp [ChIs, and_assoc]
  have hcase : ∀ p : Bool, p = true ∨ p = false := fun p => by cases p <;> simp
  by_cases c1 : 1 ≤ m
  · by_cases c2 : m ≤ 12
    · by_cases c3 : 1 ≤ w
      · by_cases c4 : w ≤ 7
        · by_cases c5 : n = -1
          · have g5 : (n == -1) = true := by simp [c5]
            by_cases c6 : 0 ≤ t
            · by_cases c7 : t < 1440
              · rw [show decide (ChIs m w n t) = true from decide_eq_true (by unfold ChIs; omega)]
                clear hd hcase c5
                go_enter Tryd.func30, Tryd.ntmps30
                go_wp2
                go_ret
                exact ⟨rfl, HB.out⟩
              · rw [show decide (ChIs m w n t) = false from decide_eq_false (by unfold ChIs; omega)]
                clear hd hcase c5
                go_enter Tryd.func30, Tryd.ntmps30
                go_wp2
                go_ret
                exact ⟨rfl, HB.out⟩
            · rw [show decide (ChIs m w n t) = false from decide_eq_false (by unfold ChIs; omega)]
              clear hd hcase c5
              go_enter Tryd.func30, Tryd.ntmps30
              go_wp2
              go_ret
              exact ⟨rfl, HB.out⟩
          · have g5 : (n == -1) = false := by simp [c5]
            by_cases c8 : 1 ≤ n
            · by_cases c9 : n ≤ 4
              · by_cases c6 : 0 ≤ t
                · by_cases c7 : t < 1440
                  · rw [show decide (ChIs m w n t) = true from decide_eq_true (by unfold ChIs; omega)]
                    clear hd hcase
                    go_enter Tryd.func30, Tryd.ntmps30
                    go_wp2
                    go_ret
                    exact ⟨rfl, HB.out⟩
                  · rw [show decide (ChIs m w n t) = false from decide_eq_false (by unfold ChIs; omega)]
                    clear hd hcase
                    go_enter Tryd.func30, Tryd.ntmps30
                    go_wp2
                    go_ret
                    exact ⟨rfl, HB.out⟩
                · rw [show decide (ChIs m w n t) = false from decide_eq_false (by unfold ChIs; omega)]
                  clear hd hcase
                  go_enter Tryd.func30, Tryd.ntmps30
                  go_wp2
                  go_ret
                  exact ⟨rfl, HB.out⟩
              · rw [show decide (ChIs m w n t) = false from decide_eq_false (by unfold ChIs; omega)]
                clear hd hcase
                go_enter Tryd.func30, Tryd.ntmps30
                go_wp2
                go_ret
                exact ⟨rfl, HB.out⟩
            · rw [show decide (ChIs m w n t) = false from decide_eq_false (by unfold ChIs; omega)]
              clear hd hcase
              go_enter Tryd.func30, Tryd.ntmps30
              go_wp2
              go_ret
              exact ⟨rfl, HB.out⟩
        · rw [show decide (ChIs m w n t) = false from decide_eq_false (by unfold ChIs; omega)]
          clear hd hcase
          go_enter Tryd.func30, Tryd.ntmps30
          go_wp2
          go_ret
          exact ⟨rfl, HB.out⟩
      · rw [show decide (ChIs m w n t) = false from decide_eq_false (by unfold ChIs; omega)]
        clear hd hcase
        go_enter Tryd.func30, Tryd.ntmps30
        go_wp2
        go_ret
        exact ⟨rfl, HB.out⟩
    · rw [show decide (ChIs m w n t) = false from decide_eq_false (by unfold ChIs; omega)]
      clear hd hcase
      go_enter Tryd.func30, Tryd.ntmps30
      go_wp2
      go_ret
      exact ⟨rfl, HB.out⟩
  · rw [show decide (ChIs m w n t) = false from decide_eq_false (by unfold ChIs; omega)]
    clear hd hcase
    go_enter Tryd.func30, Tryd.ntmps30
    go_wp2
    go_ret
    exact ⟨rfl, HB.out⟩
def atV (y m w n t : Int) : Int := dayOf y m (nthD y m w n) * 86400 + t * 60
theorem nth_is_of {y m w n t : Int} (hy : 1970 ≤ y ∧ y ≤ 9999) (h : ChIs m w n t) : NthIs y m w n := by
  obtain ⟨⟨h1, h2⟩, h3, h4, h5⟩ := h
  have hdl := dlen_ge (y := y) (m := m) h1 h2
  refine ⟨⟨hy.1, hy.2, h1, h2, by omega, by omega⟩, h3, ?_⟩
  rcases h4 with h4 | h4
  · exact .inl h4
  · refine .inr ⟨h4.1, by omega, ?_⟩
    unfold nthD
    rw [if_neg (by omega)]
    have := nthF_bounds y m w
    omega
theorem nth_may {y m w n : Int} (h : NthIs y m w n) : May y m (nthD y m w n) := by
  obtain ⟨⟨a1, a2, a3, a4, a5, a6⟩, h3, h4⟩ := h
  have hdl := dlen_ge (y := y) (m := m) a3 a4
  have := nthF_bounds y m w
  refine ⟨a1, a2, a3, a4, ?_, ?_⟩ <;> unfold nthD at * <;> rcases h4 with rfl | h4
  · rw [if_pos rfl]; omega
  · rw [if_neg (by omega)]; omega
  · rw [if_pos rfl]; omega
  · rw [if_neg (by omega)] at *; omega
set_option maxHeartbeats 2000000 in
theorem rat_any (y m w n t : Int) (hy : 1970 ≤ y ∧ y ≤ 9999) (h : ChIs m w n t) (W : World) :
    Calls Tryd.prog 36 #[.int .i64 y, chV m w n t] W fun e w' => e = .returned (.int .i64 (atV y m w n t)) ∧ Below W.heap.size W w' := by
  have HB := Lib.hid ((Below.refl _ W).alloc (Nat.le_refl _) (.cells #[.int .i64 m, .int .i64 w, .int .i64 n, .int .i64 t] 29))
  have hN := nth_is_of hy h
  have hM := nth_may hN
  have hb := day_bounds hM
  have H1 := Lib.hid (fun X => rnth_yes y m w n hN X)
  obtain ⟨D, hD⟩ : ∃ D, D = nthD y m w n := ⟨_, rfl⟩
  have H2 := Lib.hid (fun X => rday_any y m D X)
  rw [← hD] at H1 hM hb
  obtain ⟨K, hK⟩ : ∃ K, K = dayOf y m D := ⟨_, rfl⟩
  rw [show dayE y m D = K by unfold dayE; rw [if_pos hM, hK], mayE_yes hM] at H2
  rw [← hK] at hb
  have ht := h.2.2.2
  rw [show atV y m w n t = K * 86400 + t * 60 by unfold atV; rw [← hD, ← hK]]
  clear hN hM hD hK h
  go_enter Tryd.func36, Tryd.ntmps36
  go_wp2_with fail
  refine (H1.out _).mono ?_
  rintro e w' ⟨rfl, rfl⟩
  go_wp2_with fail
  refine (H2.out _).mono ?_
  rintro e w' ⟨rfl, rfl⟩
  go_wp2
  go_ret
  exact ⟨rfl, HB.out⟩
end Go.Proofs.YtobnlcmamnoefaaDoor
