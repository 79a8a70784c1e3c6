/- The walk of the statement CivilNext; the example that is alive. -/
import Derived.Test.YtjlejpenegjbcaaDoorKOf
import Derived.Deep.QuietTactic
set_option linter.unusedVariables false
set_option linter.unusedSimpArgs false
namespace Go.Proofs.YtjlejpenegjbcaaDoor
open Go.RowKit Go.Shelf
theorem wkB_in {n : Int} (h0 : 0 ≤ n) (h1 : n ≤ 2932896) : wkB n = wkday n := by unfold wkB; rw [if_pos ⟨h0, h1⟩]
/-- A day's date, told. -/
theorem of_is (n y m d : Int) (h : IsDate n y m d) (w : World) (hT : Tabs w) :
    Calls Tryd.prog 14 #[.int .i64 n] w fun e w' => e = .returned (.tuple #[dateV y m d, .int .i64 0]) ∧ Below w.heap.size w w' := by
  have hb := day_bounds h.1
  rw [← h.2] at hb
  refine (of_yes n w hT hb.1 hb.2).mono ?_
  rintro e w' ⟨⟨y', m', d', h', rfl⟩, hB⟩
  obtain ⟨rfl, rfl, rfl⟩ := h.unique h'
  exact ⟨rfl, hB⟩
theorem day_is (n y m d : Int) (h : IsDate n y m d) (w : World) (hT : Tabs w) :
    Calls Tryd.prog 12 #[dateV y m d] w fun e w' => e = .returned (.tuple #[.int .i64 n, .int .i64 0]) ∧ Below w.heap.size w w' := by
  rw [h.2]; exact day_yes y m d w hT h.1
theorem alive_any (w : World) (hT : Tabs w) :
    Calls Tryd.prog 35 #[] w fun e w' => e = .returned (.bool true) ∧ Below w.heap.size w w' := by
  have h1 : IsDate 11017 2000 3 1 := by decide
  have h2 : IsDate 11016 2000 2 29 := by decide
  have h3 : wkB 11017 = 3 := by decide
  have HT := Lib.hid hT
  clear hT
  go_enter Tryd.func35, Tryd.ntmps35
  go_wp2_with fail
  refine (day_is _ _ _ _ h1 _ HT.out).mono ?_
  rintro e w1 ⟨rfl, hB1⟩
  have HB1 := Lib.hid hB1
  clear hB1
  go_wp2_with fail
  refine (of_is _ _ _ _ h2 _ (HT.out.next HB1.out)).mono ?_
  rintro e w2 ⟨rfl, hB2⟩
  have HB2 := Lib.hid (HB1.out.trans (hB2.mono HB1.out.size))
  clear hB2
  go_wp2_with (go_at_call 20; refine (weekday_any _ _).mono ?_; rintro e w' ⟨rfl, rfl⟩; rw [h3])
  go_ret
  exact ⟨rfl, HB2.out.alloc HB2.out.size _⟩
theorem next_far (n : Int) (h : ¬ (0 ≤ n ∧ n < 2932896)) (w : World) (hT : Tabs w) :
    Calls Tryd.prog 8 #[.int .i64 n] w fun e w' => e = .returned (.bool true) ∧ Below w.heap.size w w' := by
  have HT := Lib.hid hT
  clear hT
  by_cases hn : 2932896 ≤ n
  · by_cases hn2 : n = 2932896
    · subst hn2
      clear h hn
      go_enter Tryd.func8, Tryd.ntmps8
      go_wp2_with fail
      refine (alive_any _ HT.out).mono ?_
      rintro e w1 ⟨rfl, hB1⟩
      have HB1 := Lib.hid hB1
      clear hB1
      go_wp2_with fail
      refine (of_yes _ _ (HT.out.next HB1.out) (by omega) (by omega)).mono ?_
      rintro e w2 ⟨⟨y, m, d, hi, rfl⟩, hB2⟩
      have HB2 := Lib.hid (HB1.out.trans (hB2.mono HB1.out.size))
      clear hB2 hi
      go_wp2
      go_ret
      exact ⟨rfl, HB2.out.alloc HB2.out.size _⟩
    · have hg : decide (2932896 ≤ n) = true := decide_eq_true hn
      go_enter Tryd.func8, Tryd.ntmps8
      go_wp2_with fail
      refine (alive_any _ HT.out).mono ?_
      rintro e w1 ⟨rfl, hB1⟩
      have HB1 := Lib.hid hB1
      clear hB1
      go_wp2_with fail
      refine (of_no n _ (HT.out.next HB1.out) (by omega)).mono ?_
      rintro e w2 ⟨rfl, hB2⟩
      have HB2 := Lib.hid (HB1.out.trans (hB2.mono HB1.out.size))
      clear hB2
      go_wp2
      go_ret
      exact ⟨rfl, HB2.out.alloc HB2.out.size _⟩
  · have hg : decide (2932896 ≤ n) = false := decide_eq_false hn
    go_enter Tryd.func8, Tryd.ntmps8
    go_wp2_with fail
    refine (alive_any _ HT.out).mono ?_
    rintro e w1 ⟨rfl, hB1⟩
    have HB1 := Lib.hid hB1
    clear hB1
    go_wp2_with fail
    refine (of_no n _ (HT.out.next HB1.out) (by omega)).mono ?_
    rintro e w2 ⟨rfl, hB2⟩
    have HB2 := Lib.hid (HB1.out.trans (hB2.mono HB1.out.size))
    clear hB2
    go_wp2
    go_ret
    exact ⟨rfl, HB2.out.alloc HB2.out.size _⟩
theorem wk_next (n : Int) : wkday n % 7 + 1 = wkday (n + 1) := by unfold wkday; omega
theorem wk_week (n : Int) : wkday (n + 7) = wkday n := by unfold wkday; omega
set_option maxRecDepth 100000 in
set_option maxHeartbeats 2000000 in
theorem next_near (n : Int) (h0 : 0 ≤ n) (h1 : n < 2932896) (w : World) (hT : Tabs w) :
    Calls Tryd.prog 8 #[.int .i64 n] w fun e w' => e = .returned (.bool true) ∧ Below w.heap.size w w' := by
  have HT := Lib.hid hT
  clear hT
  have hg : decide (2932896 ≤ n) = false := decide_eq_false (by omega)
  have e1 : wkB n = wkday n := wkB_in h0 (by omega)
  have e2 : wkB (n + 1) = wkday (n + 1) := wkB_in (by omega) (by omega)
  have hn1 := wk_next n
  have hw7 : ¬ (2932896 < n + 7) → wkB (n + 7) = wkday n := fun h => by rw [wkB_in (by omega) (by omega), wk_week]
  have hwb := wkday_bounds n
  rw [← hn1] at e2
  obtain ⟨K, hK⟩ : ∃ K, K = wkday n := ⟨_, rfl⟩
  rw [← hK] at e1 e2 hw7 hwb
  have E1 := Lib.hid e1
  have E2 := Lib.hid e2
  have E7 := Lib.hid hw7
  clear e1 e2 hn1 hw7 hK
  go_enter Tryd.func8, Tryd.ntmps8
  go_wp2_with fail
  refine (alive_any _ HT.out).mono ?_
  rintro e w1 ⟨rfl, hB1⟩
  have HB1 := Lib.hid hB1
  clear hB1
  go_wp2_with fail
  refine (of_yes _ _ (HT.out.next HB1.out) (by omega) (by omega)).mono ?_
  rintro e w2 ⟨⟨y, m, d, hi, rfl⟩, hB2⟩
  have hB2' := HB1.out.trans (hB2.mono HB1.out.size)
  have hmb := hi.1
  have hds := dlen_bounds (y := y) (m := m)
  have hbd : 1970 ≤ y ∧ y ≤ 9999 ∧ 1 ≤ m ∧ m ≤ 12 ∧ 1 ≤ d ∧ d ≤ 31 := by unfold May at hmb; omega
  have HI := Lib.hid hi
  have HB2 := Lib.hid hB2'
  have da := heap_alloc_new w2 (.cells #[.int .i64 y, .int .i64 m, .int .i64 d] 23)
  have HDA := Lib.hid da
  clear hB2 hB2' hi hmb hds da
  obtain ⟨L, hL⟩ : ∃ L, L = dlen y m := ⟨_, rfl⟩
  have HL := Lib.hid hL
  clear hL
  have hT2 : ∀ X, Below w.heap.size w X → Tabs X := fun X hX => HT.out.next hX
  have HT2 := Lib.hid hT2
  clear hT2
  have hnext : ∃ y' m' d', IsDate (n + 1) y' m' d' ∧ ((d + 1 ≤ L ∧ y' = y ∧ m' = m ∧ d' = d + 1) ∨ (L < d + 1 ∧ m + 1 ≤ 12 ∧ y' = y ∧ m' = m + 1 ∧ d' = 1) ∨ (L < d + 1 ∧ 12 < m + 1 ∧ y' = y + 1 ∧ m' = 1 ∧ d' = 1)) := by
    rw [HL.out]
    by_cases c1 : d + 1 ≤ dlen y m
    · exact ⟨y, m, d + 1, next_in HI.out c1, .inl ⟨c1, rfl, rfl, rfl⟩⟩
    · by_cases c2 : m + 1 ≤ 12
      · exact ⟨y, m + 1, 1, next_month HI.out (by omega) c2, .inr (.inl ⟨by omega, c2, rfl, rfl, rfl⟩)⟩
      · exact ⟨y + 1, 1, 1, next_year HI.out h1 (by omega) (by omega), .inr (.inr ⟨by omega, by omega, rfl, rfl, rfl⟩)⟩
  obtain ⟨y', m', d', hi', hc⟩ := hnext
  have HI' := Lib.hid hi'
  have HC := Lib.hid hc
  clear hi' hc
  go_wp2_with fail
  refine (of_is _ _ _ _ HI'.out _ (HT2.out _ (HB2.out.alloc HB2.out.size _))).mono ?_
  rintro e w3 ⟨rfl, hB3⟩
  have da := (hB3.block w2.heap.size (by simp)).trans HDA.out
  have hB3' := (HB2.out.alloc HB2.out.size (.cells #[.int .i64 y, .int .i64 m, .int .i64 d] 23)).trans (hB3.mono (by have := HB2.out.size; simp; omega))
  have ca0 : w3.cell? ⟨w2.heap.size, 0, none⟩ = some (.int .i64 y) := cell_of_row w3 _ 0 _ _ _ da
  have ca1 : w3.cell? ⟨w2.heap.size, 1, none⟩ = some (.int .i64 m) := cell_of_row w3 _ 1 _ _ _ da
  have ca2 : w3.cell? ⟨w2.heap.size, 2, none⟩ = some (.int .i64 d) := cell_of_row w3 _ 2 _ _ _ da
  have hlt : w2.heap.size < w3.heap.size := (Array.getElem?_eq_some_iff.1 da).1
  have HB3 := Lib.hid hB3'
  have HDA3 := Lib.hid da
  clear hB3 hB3' HDA da
  go_wp2_with fail
  obtain ⟨X, hX⟩ : ∃ X, ((w3.alloc (.cells #[.int .i64 y', .int .i64 m', .int .i64 d'] 23)).alloc (.cells #[.int .i64 y, .int .i64 m, .int .i64 (d + 1)] 23)) = X := ⟨_, rfl⟩
  have p1 : X.heap[w2.heap.size]? = some (.cells #[.int .i64 y, .int .i64 m, .int .i64 d] 23 (0, 0)) := by rw [← hX]; exact heap_old (heap_old HDA3.out _) _
  have p2 : X.heap[w3.heap.size]? = some (.cells #[.int .i64 y', .int .i64 m', .int .i64 d'] 23 (0, 0)) := by rw [← hX]; exact heap_old (heap_alloc_new _ _) _
  have p3 : X.heap[w3.heap.size + 1]? = some (.cells #[.int .i64 y, .int .i64 m, .int .i64 (d + 1)] 23 (0, 0)) := by
    have := heap_alloc_new (w3.alloc (.cells #[.int .i64 y', .int .i64 m', .int .i64 d'] 23)) (.cells #[.int .i64 y, .int .i64 m, .int .i64 (d + 1)] 23)
    rw [World.size_alloc] at this
    rw [← hX]; exact this
  have p4 : Below w.heap.size w X := by rw [← hX]; exact (HB3.out.alloc HB3.out.size _).alloc (by have := HB3.out.size; simp; omega) _
  have hws := HB3.out.size
  rw [hX]
  clear hX ca0 ca1 ca2
  have ca0 : X.cell? ⟨w2.heap.size, 0, none⟩ = some (.int .i64 y) := cell_of_row X _ 0 _ _ _ p1
  have ca1 : X.cell? ⟨w2.heap.size, 1, none⟩ = some (.int .i64 m) := cell_of_row X _ 1 _ _ _ p1
  have cb0 : X.cell? ⟨w3.heap.size, 0, none⟩ = some (.int .i64 y') := cell_of_row X _ 0 _ _ _ p2
  have cb1 : X.cell? ⟨w3.heap.size, 1, none⟩ = some (.int .i64 m') := cell_of_row X _ 1 _ _ _ p2
  have cb2 : X.cell? ⟨w3.heap.size, 2, none⟩ = some (.int .i64 d') := cell_of_row X _ 2 _ _ _ p2
  have cw0 : X.cell? ⟨w3.heap.size + 1, 0, none⟩ = some (.int .i64 y) := cell_of_row X _ 0 _ _ _ p3
  have cw1 : X.cell? ⟨w3.heap.size + 1, 1, none⟩ = some (.int .i64 m) := cell_of_row X _ 1 _ _ _ p3
  have cw2 : X.cell? ⟨w3.heap.size + 1, 2, none⟩ = some (.int .i64 (d + 1)) := cell_of_row X _ 2 _ _ _ p3
  have fw0 := frozen_of_row X (w3.heap.size + 1) 0 _ _ p3
  have fw1 := frozen_of_row X (w3.heap.size + 1) 1 _ _ p3
  have fw2 := frozen_of_row X (w3.heap.size + 1) 2 _ _ p3
  have hcd := fun k => days_any y m (X.drewN k) ((HT2.out X p4).drewN k)
  rw [← HL.out] at hcd
  have HCD := Lib.hid hcd
  have P4 := Lib.hid p4
  clear hcd p1 p2 p3 p4 HDA3 HB3
  generalize w2.heap.size = b2 at *
  generalize w3.heap.size = b3 at *
  go_quiet ((go_at_call 18; exact Calls.quiet_of_same ((HCD.out _).mono fun _ _ h => ⟨h.1, h.2.symm⟩)))
  have hfin : ∀ k, Below w.heap.size w (X.drewN k) := fun k => below_drewN P4.out k
  have HF := Lib.hid hfin
  obtain ⟨Y, hY⟩ : ∃ Y, Y = X.drewN nq := ⟨_, rfl⟩
  have hYc : ∀ a, Y.cell? a = X.cell? a := fun a => by rw [hY]; rfl
  have hYf : ∀ a, Y.frozen? a = X.frozen? a := fun a => by rw [hY]; rfl
  have HB4 := Lib.hid (show Below w.heap.size w Y by rw [hY]; exact HF.out nq)
  rw [← hYc] at ca0 ca1 cb0 cb1 cb2 cw0 cw1 cw2
  rw [← hYf] at fw0 fw1 fw2
  rw [← hY]
  clear hY hYc hYf HF hfin HCD P4
  rcases HC.out with ⟨c1, rfl, rfl, rfl⟩ | ⟨c1, c2, rfl, rfl, rfl⟩ | ⟨c1, c2, rfl, rfl, rfl⟩
  · have g1 : decide (L < d + 1) = false := decide_eq_false (by omega)
    have g2 : decide (12 < m') = false := decide_eq_false (by omega)
    by_cases c7 : 2932896 < n + 7
    · have g7 : decide (2932896 < n + 7) = true := decide_eq_true c7
      clear HC
      rw [g1]
      go_wp2_with (go_at_call 20; refine (weekday_any _ _).mono ?_; rintro e w' ⟨rfl, rfl⟩; first | rw [E1.out] | rw [E2.out])
      go_ret
      exact ⟨rfl, HB4.out⟩
    · have e7 := E7.out (by omega)
      have g7 : decide (2932896 < n + 7) = false := decide_eq_false c7
      have E77 := Lib.hid e7
      clear HC e7
      rw [g1]
      go_wp2_with (go_at_call 20; refine (weekday_any _ _).mono ?_; rintro e w' ⟨rfl, rfl⟩; first | rw [E1.out] | rw [E2.out] | rw [E77.out])
      go_ret
      exact ⟨rfl, HB4.out⟩
  · have g1 : decide (L < d + 1) = true := decide_eq_true c1
    have g2 : decide (12 < m + 1) = false := decide_eq_false (by omega)
    by_cases c7 : 2932896 < n + 7
    · have g7 : decide (2932896 < n + 7) = true := decide_eq_true c7
      clear HC
      rw [g1]
      go_wp2_with (go_at_call 20; refine (weekday_any _ _).mono ?_; rintro e w' ⟨rfl, rfl⟩; first | rw [E1.out] | rw [E2.out])
      go_ret
      exact ⟨rfl, ((HB4.out.setCell (p := ⟨b3 + 1, 2, none⟩) (by simp; omega) _).setCell (p := ⟨b3 + 1, 1, none⟩) (by simp; omega) _)⟩
    · have e7 := E7.out (by omega)
      have g7 : decide (2932896 < n + 7) = false := decide_eq_false c7
      have E77 := Lib.hid e7
      clear HC e7
      rw [g1]
      go_wp2_with (go_at_call 20; refine (weekday_any _ _).mono ?_; rintro e w' ⟨rfl, rfl⟩; first | rw [E1.out] | rw [E2.out] | rw [E77.out])
      go_ret
      exact ⟨rfl, ((HB4.out.setCell (p := ⟨b3 + 1, 2, none⟩) (by simp; omega) _).setCell (p := ⟨b3 + 1, 1, none⟩) (by simp; omega) _)⟩
  · have g1 : decide (L < d + 1) = true := decide_eq_true c1
    have g2 : decide (12 < m + 1) = true := decide_eq_true c2
    have hA : (((Y.setCell ⟨b3 + 1, 2, none⟩ (.int .i64 1)).setCell ⟨b3 + 1, 1, none⟩ (.int .i64 (m + 1))).setCell ⟨b3 + 1, 1, none⟩ (.int .i64 1)).cell? ⟨b3 + 1, 1, none⟩ = some (.int .i64 1) :=
      World.cell?_setCell_same _ _ _ (World.cell?_setCell_same _ _ _ ((World.cell?_setCell_other _ _ _ _ (by simp)).trans cw1))
    by_cases c7 : 2932896 < n + 7
    · have g7 : decide (2932896 < n + 7) = true := decide_eq_true c7
      clear HC
      rw [g1]
      go_wp2_with (go_at_call 20; refine (weekday_any _ _).mono ?_; rintro e w' ⟨rfl, rfl⟩; first | rw [E1.out] | rw [E2.out])
      go_ret
      exact ⟨rfl, ((((HB4.out.setCell (p := ⟨b3 + 1, 2, none⟩) (by simp; omega) _).setCell (p := ⟨b3 + 1, 1, none⟩) (by simp; omega) _).setCell (p := ⟨b3 + 1, 1, none⟩) (by simp; omega) _).setCell (p := ⟨b3 + 1, 0, none⟩) (by simp; omega) _)⟩
    · have e7 := E7.out (by omega)
      have g7 : decide (2932896 < n + 7) = false := decide_eq_false c7
      have E77 := Lib.hid e7
      clear HC e7
      rw [g1]
      go_wp2_with (go_at_call 20; refine (weekday_any _ _).mono ?_; rintro e w' ⟨rfl, rfl⟩; first | rw [E1.out] | rw [E2.out] | rw [E77.out])
      go_ret
      exact ⟨rfl, ((((HB4.out.setCell (p := ⟨b3 + 1, 2, none⟩) (by simp; omega) _).setCell (p := ⟨b3 + 1, 1, none⟩) (by simp; omega) _).setCell (p := ⟨b3 + 1, 1, none⟩) (by simp; omega) _).setCell (p := ⟨b3 + 1, 0, none⟩) (by simp; omega) _)⟩
theorem next_any (n : Int) (w : World) (hT : Tabs w) :
    Calls Tryd.prog 8 #[.int .i64 n] w fun e w' => e = .returned (.bool true) ∧ Below w.heap.size w w' := by
  by_cases h : 0 ≤ n ∧ n < 2932896
  · exact next_near n h.1 h.2 w hT
  · exact next_far n h w hT
end Go.Proofs.YtjlejpenegjbcaaDoor
