/- The walk of the statement CivilDays. -/
import Derived.Test.YtjlejpenegjbcaaDoorKRef2
set_option linter.unusedVariables false
set_option linter.unusedSimpArgs false
namespace Go.Proofs.YtjlejpenegjbcaaDoor
open Go.RowKit Go.Shelf
theorem year_exists (n : Int) (h0 : 0 ≤ n) : ∀ k : Nat, n < ahead (1970 + k) → ∃ y : Int, 1970 ≤ y ∧ y < 1970 + k ∧ ahead y ≤ n ∧ n < ahead (y + 1)
  | 0, h => by rw [Int.natCast_zero, Int.add_zero, ahead_1970] at h; omega
  | k + 1, h => by
    by_cases hk : n < ahead (1970 + k)
    · obtain ⟨y, a, b, c⟩ := year_exists n h0 k hk
      exact ⟨y, a, by omega, c⟩
    · exact ⟨1970 + k, by omega, by omega, by omega, by rw [Int.natCast_add] at h; rw [Int.add_assoc]; exact h⟩
theorem month_exists (y r : Int) (h0 : 0 ≤ r) : ∀ k : Nat, k ≤ 12 → r < bef y (1 + k) → ∃ m : Int, 1 ≤ m ∧ m ≤ k ∧ bef y m ≤ r ∧ r < bef y m + dlen y m
  | 0, _, h => by rw [Int.natCast_zero, Int.add_zero, bef_one] at h; omega
  | k + 1, hk, h => by
    by_cases hr : r < bef y (1 + k)
    · obtain ⟨m, a, b, c⟩ := month_exists y r h0 k (by omega) hr
      exact ⟨m, a, by omega, c⟩
    · have hs := bef_succ (y := y) (m := 1 + k) (by omega) (by omega)
      exact ⟨1 + k, by omega, by omega, by omega, by rw [← hs]; rw [Int.natCast_add, ← Int.add_assoc] at h; exact h⟩
theorem date_exists (n : Int) (h0 : 0 ≤ n) (h1 : n ≤ 2932896) : ∃ y m d, IsDate n y m d := by
  obtain ⟨y, a, b, c, e⟩ := year_exists n h0 8030 (by rw [show (1970 : Int) + (8030 : Nat) = 10000 from rfl, ahead_10000]; omega)
  have hs := ahead_succ (y := y) (by omega)
  have h13 := bef_13 y
  obtain ⟨m, f, g, i, j⟩ := month_exists y (n - ahead y) (by omega) 12 (by omega) (by rw [show (1 : Int) + (12 : Nat) = 13 from rfl]; omega)
  exact ⟨y, m, _, isDate_of a (by omega) f (by omega) (by omega) (by omega)⟩
theorem rof_is (n y m d : Int) (h : IsDate n y m d) (w : World) :
    Calls Tryd.prog 15 #[.int .i64 n] w fun e w' => e = .returned (.tuple #[.int .i64 y, .int .i64 m, .int .i64 d, .int .i64 0]) ∧ w = w' := by
  have hb := day_bounds h.1
  rw [← h.2] at hb
  refine (rof_yes n hb.1 hb.2 w).mono ?_
  rintro e w' ⟨⟨y', m', d', h', rfl⟩, hB⟩
  obtain ⟨rfl, rfl, rfl⟩ := h.unique h'
  exact ⟨rfl, hB⟩
set_option maxRecDepth 100000 in
set_option maxHeartbeats 4000000 in
theorem days_walk (y m d n a b c f : Int) (w : World) (hT : Tabs w)
    (hO : ∀ w, Tabs w → Calls Tryd.prog 14 #[.int .i64 n] w fun e w' => e = .returned (.tuple #[dateV a b c, .int .i64 f]) ∧ Below w.heap.size w w')
    (hR : ∀ w, Calls Tryd.prog 15 #[.int .i64 n] w fun e w' => e = .returned (.tuple #[.int .i64 a, .int .i64 b, .int .i64 c, .int .i64 f]) ∧ w = w') :
    Calls Tryd.prog 3 #[dateV y m d, .int .i64 n] w fun e w' => e = .returned (.bool true) ∧ Below w.heap.size w w' := by
  have hb0 := (Below.refl _ w).alloc (Nat.le_refl _) (.cells #[.int .i64 y, .int .i64 m, .int .i64 d] 23)
  have hr := heap_alloc_new w (.cells #[.int .i64 y, .int .i64 m, .int .i64 d] 23)
  have HT := Lib.hid (show ∀ X, Below w.heap.size w X → Tabs X from fun X hX => hT.next hX)
  have HO := Lib.hid hO
  have HR := Lib.hid hR
  have hm : (decide (May y m d) = true ∧ mayE y m d = 0) ∨ (decide (May y m d) = false ∧ mayE y m d = 60) := by
    by_cases h : May y m d
    · exact .inl ⟨decide_eq_true h, mayE_yes h⟩
    · exact .inr ⟨decide_eq_false h, mayE_no h⟩
  have hday := fun X => day_any y m d X
  have hrday := fun X => rday_any y m d X
  have hchk := fun X => check_any y m d X
  have hmay := fun X => rmay_any y m d X
  obtain ⟨E, hE⟩ : ∃ E, E = mayE y m d := ⟨_, rfl⟩
  obtain ⟨B, hB⟩ : ∃ E, E = decide (May y m d) := ⟨_, rfl⟩
  obtain ⟨N, hN⟩ : ∃ E, E = dayE y m d := ⟨_, rfl⟩
  obtain ⟨L, hL⟩ : ∃ E, E = dlen y m := ⟨_, rfl⟩
  obtain ⟨P, hP⟩ : ∃ E, E = leap y := ⟨_, rfl⟩
  obtain ⟨W, hW⟩ : ∃ E, E = wkB n := ⟨_, rfl⟩
  have hdl := fun X => days_any y m X
  have hrdl := fun X => rdays_any y m X
  have hlp := fun X => leap_any y X
  have hrlp := fun X => rleap_any y X
  have hwk := fun X => weekday_any n X
  have hrwk := fun X => rweekday_any n X
  rw [← hE, ← hB] at hm
  simp only [← hE] at hday hrday hchk
  simp only [← hN] at hday hrday
  simp only [← hB] at hmay
  simp only [← hL] at hdl hrdl
  simp only [← hP] at hlp hrlp
  simp only [← hW] at hwk hrwk
  have DAY := Lib.hid hday
  have RDAY := Lib.hid hrday
  have CHK := Lib.hid hchk
  have MAY := Lib.hid hmay
  have DL := Lib.hid hdl
  have RDL := Lib.hid hrdl
  have LP := Lib.hid hlp
  have RLP := Lib.hid hrlp
  have WK := Lib.hid hwk
  have RWK := Lib.hid hrwk
  clear hday hrday hchk hmay hdl hrdl hlp hrlp hwk hrwk hE hB hN hL hP hW hO hR hT
  have HB0 := Lib.hid hb0
  have HR0 := Lib.hid hr
  clear hb0 hr
  rcases hm with ⟨rfl, rfl⟩ | ⟨rfl, rfl⟩
  all_goals
    go_enter Tryd.func3, Tryd.ntmps3
    go_wp2_with fail
    refine (MAY.out _).mono ?_
    rintro e w' ⟨rfl, rfl⟩
    go_wp2_with fail
    refine (CHK.out _ (HT.out _ HB0.out)).mono ?_
    rintro e w1 ⟨rfl, hB1⟩
    have hr1 := (hB1.block w.heap.size (by simp)).trans HR0.out
    have HB1 := Lib.hid (HB0.out.trans (hB1.mono (by simp)))
    have a0 : w1.cell? ⟨w.heap.size, 0, none⟩ = some (.int .i64 y) := cell_of_row w1 _ 0 _ _ _ hr1
    have a1 : w1.cell? ⟨w.heap.size, 1, none⟩ = some (.int .i64 m) := cell_of_row w1 _ 1 _ _ _ hr1
    have a2 : w1.cell? ⟨w.heap.size, 2, none⟩ = some (.int .i64 d) := cell_of_row w1 _ 2 _ _ _ hr1
    have HR1 := Lib.hid hr1
    clear hB1 hr1
    go_wp2_with fail
    refine (DAY.out _ (HT.out _ HB1.out)).mono ?_
    rintro e w2 ⟨rfl, hB2⟩
    have hr2 := (hB2.block w.heap.size (Array.getElem?_eq_some_iff.1 HR1.out).1).trans HR1.out
    have HB2 := Lib.hid (HB1.out.trans (hB2.mono HB1.out.size))
    clear a0 a1 a2
    have a0 : w2.cell? ⟨w.heap.size, 0, none⟩ = some (.int .i64 y) := cell_of_row w2 _ 0 _ _ _ hr2
    have a1 : w2.cell? ⟨w.heap.size, 1, none⟩ = some (.int .i64 m) := cell_of_row w2 _ 1 _ _ _ hr2
    have a2 : w2.cell? ⟨w.heap.size, 2, none⟩ = some (.int .i64 d) := cell_of_row w2 _ 2 _ _ _ hr2
    have HR2 := Lib.hid hr2
    clear hB2 hr2
    go_wp2_with fail
    refine (RDAY.out _).mono ?_
    rintro e w' ⟨rfl, rfl⟩
    go_wp2_with fail
    refine (HO.out _ (HT.out _ HB2.out)).mono ?_
    rintro e w3 ⟨rfl, hB3⟩
    have hr3 := (hB3.block w.heap.size (Array.getElem?_eq_some_iff.1 HR2.out).1).trans HR2.out
    have HB3 := Lib.hid (HB2.out.trans (hB3.mono HB2.out.size))
    have HR3 := Lib.hid hr3
    clear hB3 hr3 a0 a1 a2
    go_wp2_with fail
    refine (HR.out _).mono ?_
    rintro e w' ⟨rfl, rfl⟩
    go_wp2_with fail
    obtain ⟨X, hX⟩ : ∃ X, w3.alloc (.cells #[.int .i64 a, .int .i64 b, .int .i64 c] 23) = X := ⟨_, rfl⟩
    have p1 : X.heap[w.heap.size]? = some (.cells #[.int .i64 y, .int .i64 m, .int .i64 d] 23 (0, 0)) := by rw [← hX]; exact heap_old HR3.out _
    have p2 : X.heap[w3.heap.size]? = some (.cells #[.int .i64 a, .int .i64 b, .int .i64 c] 23 (0, 0)) := by rw [← hX]; exact heap_alloc_new _ _
    have p4 : Below w.heap.size w X := by rw [← hX]; exact HB3.out.alloc HB3.out.size _
    rw [hX]
    have a0 : X.cell? ⟨w.heap.size, 0, none⟩ = some (.int .i64 y) := cell_of_row X _ 0 _ _ _ p1
    have a1 : X.cell? ⟨w.heap.size, 1, none⟩ = some (.int .i64 m) := cell_of_row X _ 1 _ _ _ p1
    have b0 : X.cell? ⟨w3.heap.size, 0, none⟩ = some (.int .i64 a) := cell_of_row X _ 0 _ _ _ p2
    have b1 : X.cell? ⟨w3.heap.size, 1, none⟩ = some (.int .i64 b) := cell_of_row X _ 1 _ _ _ p2
    have b2 : X.cell? ⟨w3.heap.size, 2, none⟩ = some (.int .i64 c) := cell_of_row X _ 2 _ _ _ p2
    have HTX := Lib.hid (show ∀ k, Tabs (X.drewN k) from fun k => (HT.out X p4).drewN k)
    have P4 := Lib.hid p4
    clear p1 p2 p4 hX HR3 HR2 HR1 HR0 HB0 HB1 HB2 HB3 HO HR MAY CHK DAY RDAY HT
    generalize w3.heap.size = b3 at *
    go_quiet (first
      | (go_at_call 16; exact Calls.quiet_of_same ((LP.out _).mono fun _ _ h => ⟨h.1, h.2.symm⟩))
      | (go_at_call 17; exact Calls.quiet_of_same ((RLP.out _).mono fun _ _ h => ⟨h.1, h.2.symm⟩))
      | (go_at_call 18; exact Calls.quiet_of_same ((DL.out _ (HTX.out _)).mono fun _ _ h => ⟨h.1, h.2.symm⟩))
      | (go_at_call 19; exact Calls.quiet_of_same ((RDL.out _).mono fun _ _ h => ⟨h.1, h.2.symm⟩))
      | (go_at_call 20; exact Calls.quiet_of_same ((WK.out _).mono fun _ _ h => ⟨h.1, h.2.symm⟩))
      | (go_at_call 21; exact Calls.quiet_of_same ((RWK.out _).mono fun _ _ h => ⟨h.1, h.2.symm⟩)))
    go_wp2
    go_ret
    exact ⟨rfl, below_drewN P4.out _⟩
theorem civilDays_any (y m d n : Int) (w : World) (hT : Tabs w) :
    Calls Tryd.prog 3 #[dateV y m d, .int .i64 n] w fun e w' => e = .returned (.bool true) ∧ Below w.heap.size w w' := by
  by_cases h : 0 ≤ n ∧ n ≤ 2932896
  · obtain ⟨a, b, c, hi⟩ := date_exists n h.1 h.2
    exact days_walk y m d n a b c 0 w hT (fun w hT => of_is n a b c hi w hT) (fun w => rof_is n a b c hi w)
  · exact days_walk y m d n 0 0 0 60 w hT (fun w hT => of_no n w hT h) (fun w => rof_no n h w)
end Go.Proofs.YtjlejpenegjbcaaDoor
