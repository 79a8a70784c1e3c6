/- The contract of civil.Nth. -/
import Derived.Test.YtgedcfgmfhlkdaaDoorKDays
import Derived.StillTailTactics
set_option linter.unusedVariables false
set_option linter.unusedSimpArgs false
namespace Go.Proofs.YtgedcfgmfhlkdaaDoor
open Go.RowKit Go.Shelf
/-- The first such weekday of a month, and the n-th, or the last. -/
def nthF (y m wd : Int) : Int := 1 + (wd - wkday (dayOf y m 1) + 7) % 7
def nthD (y m wd n : Int) : Int := if n = -1 then nthF y m wd + (dlen y m - nthF y m wd) / 7 * 7 else nthF y m wd + (n - 1) * 7
def NthIs (y m wd n : Int) : Prop := May y m 1 ∧ (1 ≤ wd ∧ wd ≤ 7) ∧ (n = -1 ∨ (1 ≤ n ∧ n ≤ 5 ∧ nthD y m wd n ≤ dlen y m))
instance (y m wd n : Int) : Decidable (NthIs y m wd n) := by unfold NthIs; infer_instance
theorem nthF_bounds (y m wd : Int) : 1 ≤ nthF y m wd ∧ nthF y m wd ≤ 7 := by unfold nthF; omega
theorem results_nth {y m d e : Int} {b : Nat} {tmps : Array Value} {w : World} (h2 : tmps.getD 8 undef = .pointer (some ⟨b, 0, none⟩)) (h3 : tmps.getD 9 undef = .int .i64 e)
    (hb : w.heap[b]? = some (.cells #[.int .i64 y, .int .i64 m, .int .i64 d] 39 (0, 0))) : (results Tryd.f69 tmps).run Tryd.prog w = .ok (.tuple #[dateV y m d, .int .i64 e]) w := by
  have c0 : w.cell? ⟨b, 0, none⟩ = some (.int .i64 y) := cell_of_row w b 0 _ _ _ hb
  have c1 : w.cell? ⟨b, 1, none⟩ = some (.int .i64 m) := cell_of_row w b 1 _ _ _ hb
  have c2 : w.cell? ⟨b, 2, none⟩ = some (.int .i64 d) := cell_of_row w b 2 _ _ _ hb
  simp only [Array.getD_eq_getD_getElem?] at h2 h3
  simp [results, Tryd.results69, go_sem, h2, h3, c0, c1, c2, dateV]
theorem nth_bad (y m wd n : Int) (h : ¬ (May y m 1 ∧ 1 ≤ wd ∧ wd ≤ 7)) (w : World) (hT : Tabs w) :
    Calls Tryd.prog 69 #[.int .i64 y, .int .i64 m, .int .i64 wd, .int .i64 n] w fun e w' => e = .returned (.tuple #[dateV 0 0 0, .int .i64 60]) ∧ Below w.heap.size w w' := by
  have hb0 := ((Below.refl _ w).alloc (Nat.le_refl _) (.cells #[.int .i64 0, .int .i64 0, .int .i64 0] 39)).alloc (by simp) (.cells #[.int .i64 y, .int .i64 m, .int .i64 1] 39)
  have hr := heap_old (heap_alloc_new w (.cells #[.int .i64 0, .int .i64 0, .int .i64 0] 39)) (.cells #[.int .i64 y, .int .i64 m, .int .i64 1] 39)
  have HB0 := Lib.hid hb0
  have HR0 := Lib.hid hr
  have hday := day_any y m 1 _ (hT.next hb0)
  clear hb0 hr hT
  by_cases hm : May y m 1
  · obtain ⟨N, hN⟩ : ∃ N, N = dayE y m 1 := ⟨_, rfl⟩
    rw [mayE_yes hm, ← hN] at hday
    have DAY := Lib.hid hday
    have hww : wd < 1 ∨ 7 < wd := by
      by_cases c : wd < 1
      · exact .inl c
      · by_cases c2 : 7 < wd
        · exact .inr c2
        · exact absurd ⟨hm, by omega, by omega⟩ h
    clear hday hN hm h
    rcases hww with hw1 | hw7
    · go_enter Tryd.func69, Tryd.ntmps69
      go_wp2_with fail
      refine DAY.out.mono ?_
      rintro e w1 ⟨rfl, hB1⟩
      have hr1 := (hB1.block w.heap.size (by simp; omega)).trans HR0.out
      have HB1 := Lib.hid (HB0.out.trans (hB1.mono (by simp; omega)))
      have a0 : w1.cell? ⟨w.heap.size, 0, none⟩ = some (.int .i64 0) := cell_of_row w1 _ 0 _ _ _ hr1
      have a1 : w1.cell? ⟨w.heap.size, 1, none⟩ = some (.int .i64 0) := cell_of_row w1 _ 1 _ _ _ hr1
      have a2 : w1.cell? ⟨w.heap.size, 2, none⟩ = some (.int .i64 0) := cell_of_row w1 _ 2 _ _ _ hr1
      have f0 := frozen_of_row w1 w.heap.size 0 _ _ hr1
      have f1 := frozen_of_row w1 w.heap.size 1 _ _ hr1
      have f2 := frozen_of_row w1 w.heap.size 2 _ _ hr1
      have HR1 := Lib.hid hr1
      clear hB1 hr1
      go_wp2
      have hrow := heap_setCell_same _ w.heap.size 2 _ _ (.int .i64 0) (heap_setCell_same _ w.heap.size 1 _ _ (.int .i64 0) (heap_setCell_same w1 w.heap.size 0 _ _ (.int .i64 0) HR1.out))
      refine bodyPost_ret (results_nth rfl rfl hrow) rfl ?_
      exact ⟨rfl, ((HB1.out.setCell (p := ⟨w.heap.size, 0, none⟩) (by simp) (.int .i64 0)).setCell (p := ⟨w.heap.size, 1, none⟩) (by simp) (.int .i64 0)).setCell (p := ⟨w.heap.size, 2, none⟩) (by simp) (.int .i64 0)⟩
    · have hw1 : ¬ wd < 1 := by omega
      go_enter Tryd.func69, Tryd.ntmps69
      go_wp2_with fail
      refine DAY.out.mono ?_
      rintro e w1 ⟨rfl, hB1⟩
      have hr1 := (hB1.block w.heap.size (by simp; omega)).trans HR0.out
      have HB1 := Lib.hid (HB0.out.trans (hB1.mono (by simp; omega)))
      have a0 : w1.cell? ⟨w.heap.size, 0, none⟩ = some (.int .i64 0) := cell_of_row w1 _ 0 _ _ _ hr1
      have a1 : w1.cell? ⟨w.heap.size, 1, none⟩ = some (.int .i64 0) := cell_of_row w1 _ 1 _ _ _ hr1
      have a2 : w1.cell? ⟨w.heap.size, 2, none⟩ = some (.int .i64 0) := cell_of_row w1 _ 2 _ _ _ hr1
      have f0 := frozen_of_row w1 w.heap.size 0 _ _ hr1
      have f1 := frozen_of_row w1 w.heap.size 1 _ _ hr1
      have f2 := frozen_of_row w1 w.heap.size 2 _ _ hr1
      have HR1 := Lib.hid hr1
      clear hB1 hr1
      go_wp2
      have hrow := heap_setCell_same _ w.heap.size 2 _ _ (.int .i64 0) (heap_setCell_same _ w.heap.size 1 _ _ (.int .i64 0) (heap_setCell_same w1 w.heap.size 0 _ _ (.int .i64 0) HR1.out))
      refine bodyPost_ret (results_nth rfl rfl hrow) rfl ?_
      exact ⟨rfl, ((HB1.out.setCell (p := ⟨w.heap.size, 0, none⟩) (by simp) (.int .i64 0)).setCell (p := ⟨w.heap.size, 1, none⟩) (by simp) (.int .i64 0)).setCell (p := ⟨w.heap.size, 2, none⟩) (by simp) (.int .i64 0)⟩
  · obtain ⟨N, hN⟩ : ∃ N, N = dayE y m 1 := ⟨_, rfl⟩
    rw [mayE_no hm, ← hN] at hday
    have DAY := Lib.hid hday
    clear hday hN hm h
    go_enter Tryd.func69, Tryd.ntmps69
    go_wp2_with fail
    refine DAY.out.mono ?_
    rintro e w1 ⟨rfl, hB1⟩
    have hr1 := (hB1.block w.heap.size (by simp; omega)).trans HR0.out
    have HB1 := Lib.hid (HB0.out.trans (hB1.mono (by simp; omega)))
    have a0 : w1.cell? ⟨w.heap.size, 0, none⟩ = some (.int .i64 0) := cell_of_row w1 _ 0 _ _ _ hr1
    have a1 : w1.cell? ⟨w.heap.size, 1, none⟩ = some (.int .i64 0) := cell_of_row w1 _ 1 _ _ _ hr1
    have a2 : w1.cell? ⟨w.heap.size, 2, none⟩ = some (.int .i64 0) := cell_of_row w1 _ 2 _ _ _ hr1
    have f0 := frozen_of_row w1 w.heap.size 0 _ _ hr1
    have f1 := frozen_of_row w1 w.heap.size 1 _ _ hr1
    have f2 := frozen_of_row w1 w.heap.size 2 _ _ hr1
    have HR1 := Lib.hid hr1
    clear hB1 hr1
    go_wp2
    have hrow := heap_setCell_same _ w.heap.size 2 _ _ (.int .i64 0) (heap_setCell_same _ w.heap.size 1 _ _ (.int .i64 0) (heap_setCell_same w1 w.heap.size 0 _ _ (.int .i64 0) HR1.out))
    refine bodyPost_ret (results_nth rfl rfl hrow) rfl ?_
    exact ⟨rfl, ((HB1.out.setCell (p := ⟨w.heap.size, 0, none⟩) (by simp) (.int .i64 0)).setCell (p := ⟨w.heap.size, 1, none⟩) (by simp) (.int .i64 0)).setCell (p := ⟨w.heap.size, 2, none⟩) (by simp) (.int .i64 0)⟩
set_option maxRecDepth 100000 in
set_option maxHeartbeats 4000000 in
theorem nth_def (y m wd n : Int) (hn : ¬ (n = -1 ∨ (1 ≤ n ∧ n ≤ 5))) (hm : May y m 1) (hw1 : 1 ≤ wd) (hw7 : wd ≤ 7) (w : World) (hT : Tabs w) :
    Calls Tryd.prog 69 #[.int .i64 y, .int .i64 m, .int .i64 wd, .int .i64 n] w fun e w' => e = .returned (.tuple #[dateV 0 0 0, .int .i64 60]) ∧ Below w.heap.size w w' := by
  have hb0 := ((Below.refl _ w).alloc (Nat.le_refl _) (.cells #[.int .i64 0, .int .i64 0, .int .i64 0] 39)).alloc (by simp) (.cells #[.int .i64 y, .int .i64 m, .int .i64 1] 39)
  have hr := heap_old (heap_alloc_new w (.cells #[.int .i64 0, .int .i64 0, .int .i64 0] 39)) (.cells #[.int .i64 y, .int .i64 m, .int .i64 1] 39)
  have hr2 := heap_alloc_new (w.alloc (.cells #[.int .i64 0, .int .i64 0, .int .i64 0] 39)) (.cells #[.int .i64 y, .int .i64 m, .int .i64 1] 39)
  rw [World.size_alloc] at hr2
  have HT := Lib.hid (show ∀ X, Below w.heap.size w X → Tabs X from fun X hX => hT.next hX)
  have hday := day_yes y m 1 _ (hT.next hb0) hm
  have hdb := day_bounds hm
  have hdg := dlen_ge (y := y) (m := m) hm.2.2.1 hm.2.2.2.1
  have hdl := dlen_bounds (y := y) (m := m)
  have hwkb := wkday_bounds (dayOf y m 1)
  have hwk := fun X => weekday_any (dayOf y m 1) X
  rw [wkB_in hdb.1 hdb.2] at hwk
  have n1 : (n == 1) = false := by simp; omega
  have n2 : (n == 2) = false := by simp; omega
  have n3 : (n == 3) = false := by simp; omega
  have n4 : (n == 4) = false := by simp; omega
  have n5 : (n == 5) = false := by simp; omega
  have n6 : (n == -1) = false := by simp; omega
  clear hn
  have hdays := fun X hX => days_any y m X hX
  have hF1 : nthF y m wd = 1 + (wd - wkday (dayOf y m 1) + 7) % 7 := rfl
  have hfb := nthF_bounds y m wd
  have hchk := fun d X hX => check_any y m d X hX
  have hym : 1970 ≤ y ∧ y ≤ 9999 ∧ 1 ≤ m ∧ m ≤ 12 := ⟨hm.1, hm.2.1, hm.2.2.1, hm.2.2.2.1⟩
  generalize dayOf y m 1 = N at *
  generalize wkday N = K at *
  generalize nthF y m wd = F1 at *
  have hdays2 : ∀ (X : World), Tabs X → Calls Tryd.prog 65 #[.int .i64 y, .int .i64 m] X fun e w' => e = .returned (.int .i64 (dlen y m)) ∧ X = w' := hdays
  generalize dlen y m = L at *
  have DAY := Lib.hid hday
  have WK := Lib.hid hwk
  have DAYS := Lib.hid hdays2
  have HB0 := Lib.hid hb0
  have HR0 := Lib.hid hr
  have HD0 := Lib.hid hr2
  have HF1 := Lib.hid hF1
  clear hb0 hr hr2 hday hwk hdays hdays2 hchk hT hm hF1
  go_enter Tryd.func69, Tryd.ntmps69
  go_wp2_with fail
  refine DAY.out.mono ?_
  rintro e w1 ⟨rfl, hB1⟩
  have hr1 := (hB1.block w.heap.size (by simp; omega)).trans HR0.out
  have hd1 := (hB1.block (w.heap.size + 1) (by simp)).trans HD0.out
  have HB1 := Lib.hid (HB0.out.trans (hB1.mono (by simp; omega)))
  have c2 : w1.cell? ⟨w.heap.size + 1, 2, none⟩ = some (.int .i64 1) := cell_of_row w1 _ 2 _ _ _ hd1
  have fz := frozen_of_row w1 (w.heap.size + 1) 2 _ _ hd1
  have HR1 := Lib.hid hr1
  have HD1 := Lib.hid hd1
  clear hB1 hr1 hd1 DAY HB0 HR0 HD0
  go_wp2_with fail
  have g1 : IntKind.i64.wrap (wd - K) = wd - K := by simp only [IntKind.wrap_i64, wrap64]; omega
  have g2 : IntKind.i64.wrap (wd - K + 7) = wd - K + 7 := by simp only [IntKind.wrap_i64, wrap64]; omega
  have g3 : (wd - K + 7).tmod 7 = (wd - K + 7) % 7 := Int.tmod_eq_emod_of_nonneg (by omega)
  have g4 : IntKind.i64.wrap (1 + (wd - K + 7) % 7) = F1 := by rw [HF1.out]; simp only [IntKind.wrap_i64, wrap64]; omega
  have G1 := Lib.hid g1
  have G2 := Lib.hid g2
  have G3 := Lib.hid g3
  have G4 := Lib.hid g4
  clear g1 g2 g3 g4
  have hmx : Tryd.prog.follows .mixedOrders = true := by kernel_rfl
  refine wp_region_still_tail 10 hmx (by kernel_rfl) ?_
  change wpStill _ _ w1.drew _ _ _
  simp only [List.take_succ_cons, List.take_zero, List.drop_succ_cons, List.drop_zero]
  have c2d : w1.drew.cell? ⟨w.heap.size + 1, 2, none⟩ = some (.int .i64 1) := c2
  have fzd : w1.drew.frozen? ⟨w.heap.size + 1, 2, none⟩ = false := fz
  still_step
  still_step
  still_step
  still_step
  still_call ((WK.out w1.drew).mono fun _ _ h => ⟨h.1, h.2.symm⟩)
  repeat still_step
  refine wpStill_nil ?_
  change wpList _ _ _ _ _ w1.drew
  rw [G1.out, G2.out, G3.out, G4.out]
  have xr : w1.drew.heap[w.heap.size]? = some (.cells #[.int .i64 0, .int .i64 0, .int .i64 0] 39 (0, 0)) := HR1.out
  have xd : w1.drew.heap[w.heap.size + 1]? = some (.cells #[.int .i64 y, .int .i64 m, .int .i64 1] 39 (0, 0)) := HD1.out
  have xb : Below w.heap.size w w1.drew := HB1.out.drew
  generalize w1.drew = X at *
  have d0 : X.cell? ⟨w.heap.size + 1, 0, none⟩ = some (.int .i64 y) := cell_of_row X _ 0 _ _ _ xd
  have d1 : X.cell? ⟨w.heap.size + 1, 1, none⟩ = some (.int .i64 m) := cell_of_row X _ 1 _ _ _ xd
  have XR := Lib.hid xr
  have XD := Lib.hid xd
  have XB := Lib.hid xb
  clear xr xd xb c2 fz HR1 HD1 HB1 G1 G2 G3 G4
  have hY : Below w.heap.size w (X.setCell ⟨w.heap.size + 1, 2, none⟩ (.int .i64 F1)) := XB.out.setCell (p := ⟨w.heap.size + 1, 2, none⟩) (by simp) _
  have yr := (heap_setCell_other X ⟨w.heap.size + 1, 2, none⟩ w.heap.size (.int .i64 F1) (by simp)).trans XR.out
  have r0 : (X.setCell ⟨w.heap.size + 1, 2, none⟩ (.int .i64 F1)).cell? ⟨w.heap.size, 0, none⟩ = some (.int .i64 0) := cell_of_row _ _ 0 _ _ _ yr
  have r1 : (X.setCell ⟨w.heap.size + 1, 2, none⟩ (.int .i64 F1)).cell? ⟨w.heap.size, 1, none⟩ = some (.int .i64 0) := cell_of_row _ _ 1 _ _ _ yr
  have r2 : (X.setCell ⟨w.heap.size + 1, 2, none⟩ (.int .i64 F1)).cell? ⟨w.heap.size, 2, none⟩ = some (.int .i64 0) := cell_of_row _ _ 2 _ _ _ yr
  have f0 := frozen_of_row X w.heap.size 0 _ _ XR.out
  have f1 := frozen_of_row X w.heap.size 1 _ _ XR.out
  have f2 := frozen_of_row X w.heap.size 2 _ _ XR.out
  have x0 : X.cell? ⟨w.heap.size, 0, none⟩ = some (.int .i64 0) := cell_of_row _ _ 0 _ _ _ XR.out
  have x1 : X.cell? ⟨w.heap.size, 1, none⟩ = some (.int .i64 0) := cell_of_row _ _ 1 _ _ _ XR.out
  have x2 : X.cell? ⟨w.heap.size, 2, none⟩ = some (.int .i64 0) := cell_of_row _ _ 2 _ _ _ XR.out
  have HY := Lib.hid hY
  have YR := Lib.hid yr
  clear hY yr r0 r1 r2 d0 d1
  go_wp2
  have hrow := heap_setCell_same _ w.heap.size 2 _ _ (.int .i64 0) (heap_setCell_same _ w.heap.size 1 _ _ (.int .i64 0) (heap_setCell_same _ w.heap.size 0 _ _ (.int .i64 0) YR.out))
  refine bodyPost_ret (results_nth rfl rfl hrow) rfl ?_
  exact ⟨rfl, ((HY.out.setCell (p := ⟨w.heap.size, 0, none⟩) (by simp) _).setCell (p := ⟨w.heap.size, 1, none⟩) (by simp) _).setCell (p := ⟨w.heap.size, 2, none⟩) (by simp) _⟩
set_option maxRecDepth 100000 in
set_option maxHeartbeats 4000000 in
theorem nth_1 (y m wd : Int) (hm : May y m 1) (hw1 : 1 ≤ wd) (hw7 : wd ≤ 7) (w : World) (hT : Tabs w) :
    Calls Tryd.prog 69 #[.int .i64 y, .int .i64 m, .int .i64 wd, .int .i64 1] w fun e w' => e = .returned (if nthD y m wd 1 ≤ dlen y m then .tuple #[dateV y m (nthD y m wd 1), .int .i64 0] else .tuple #[dateV 0 0 0, .int .i64 60]) ∧ Below w.heap.size w w' := by
  have hb0 := ((Below.refl _ w).alloc (Nat.le_refl _) (.cells #[.int .i64 0, .int .i64 0, .int .i64 0] 39)).alloc (by simp) (.cells #[.int .i64 y, .int .i64 m, .int .i64 1] 39)
  have hr := heap_old (heap_alloc_new w (.cells #[.int .i64 0, .int .i64 0, .int .i64 0] 39)) (.cells #[.int .i64 y, .int .i64 m, .int .i64 1] 39)
  have hr2 := heap_alloc_new (w.alloc (.cells #[.int .i64 0, .int .i64 0, .int .i64 0] 39)) (.cells #[.int .i64 y, .int .i64 m, .int .i64 1] 39)
  rw [World.size_alloc] at hr2
  have HT := Lib.hid (show ∀ X, Below w.heap.size w X → Tabs X from fun X hX => hT.next hX)
  have hday := day_yes y m 1 _ (hT.next hb0) hm
  have hdb := day_bounds hm
  have hdg := dlen_ge (y := y) (m := m) hm.2.2.1 hm.2.2.2.1
  have hdl := dlen_bounds (y := y) (m := m)
  have hwkb := wkday_bounds (dayOf y m 1)
  have hwk := fun X => weekday_any (dayOf y m 1) X
  rw [wkB_in hdb.1 hdb.2] at hwk
  have hdays := fun X hX => days_any y m X hX
  have hF1 : nthF y m wd = 1 + (wd - wkday (dayOf y m 1) + 7) % 7 := rfl
  have hfb := nthF_bounds y m wd
  have hnd : nthD y m wd 1 = nthF y m wd := by unfold nthD; rw [if_neg (by omega)]; omega
  rw [hnd]
  have hchk := fun d X hX => check_any y m d X hX
  have hmay : ∀ d, 1 ≤ d → mayE y m d = if d ≤ dlen y m then 0 else 60 := fun d hd => by
    unfold mayE
    obtain ⟨q1, q2, q3, q4, q5, q6⟩ := hm
    by_cases c : d ≤ dlen y m
    · rw [if_pos c, if_pos ⟨q1, q2, q3, q4, hd, c⟩]
    · rw [if_neg c, if_neg (fun h => c h.2.2.2.2.2)]
  have hym : 1970 ≤ y ∧ y ≤ 9999 ∧ 1 ≤ m ∧ m ≤ 12 := ⟨hm.1, hm.2.1, hm.2.2.1, hm.2.2.2.1⟩
  generalize dayOf y m 1 = N at *
  generalize wkday N = K at *
  generalize nthF y m wd = F1 at *
  have hdays2 : ∀ (X : World), Tabs X → Calls Tryd.prog 65 #[.int .i64 y, .int .i64 m] X fun e w' => e = .returned (.int .i64 (dlen y m)) ∧ X = w' := hdays
  generalize dlen y m = L at *
  have hdn : 1 ≤ F1 ∧ F1 ≤ 60 := by omega
  have hchk2 := hchk (F1)
  rw [hmay (F1) hdn.1] at hchk2
  have DAY := Lib.hid hday
  have WK := Lib.hid hwk
  have DAYS := Lib.hid hdays2
  have CHK := Lib.hid hchk2
  have HB0 := Lib.hid hb0
  have HR0 := Lib.hid hr
  have HD0 := Lib.hid hr2
  have HF1 := Lib.hid hF1
  obtain ⟨RV, hRV⟩ : ∃ v, v = (if F1 ≤ L then Value.tuple #[dateV y m (F1), .int .i64 0] else Value.tuple #[dateV 0 0 0, .int .i64 60]) := ⟨_, rfl⟩
  rw [← hRV]
  have HRV := Lib.hid hRV
  clear hb0 hr hr2 hday hwk hdays hdays2 hchk hchk2 hmay hT hm hF1 hnd hRV
  go_enter Tryd.func69, Tryd.ntmps69
  go_wp2_with fail
  refine DAY.out.mono ?_
  rintro e w1 ⟨rfl, hB1⟩
  have hr1 := (hB1.block w.heap.size (by simp; omega)).trans HR0.out
  have hd1 := (hB1.block (w.heap.size + 1) (by simp)).trans HD0.out
  have HB1 := Lib.hid (HB0.out.trans (hB1.mono (by simp; omega)))
  have c2 : w1.cell? ⟨w.heap.size + 1, 2, none⟩ = some (.int .i64 1) := cell_of_row w1 _ 2 _ _ _ hd1
  have fz := frozen_of_row w1 (w.heap.size + 1) 2 _ _ hd1
  have HR1 := Lib.hid hr1
  have HD1 := Lib.hid hd1
  clear hB1 hr1 hd1 DAY HB0 HR0 HD0
  go_wp2_with fail
  have g1 : IntKind.i64.wrap (wd - K) = wd - K := by simp only [IntKind.wrap_i64, wrap64]; omega
  have g2 : IntKind.i64.wrap (wd - K + 7) = wd - K + 7 := by simp only [IntKind.wrap_i64, wrap64]; omega
  have g3 : (wd - K + 7).tmod 7 = (wd - K + 7) % 7 := Int.tmod_eq_emod_of_nonneg (by omega)
  have g4 : IntKind.i64.wrap (1 + (wd - K + 7) % 7) = F1 := by rw [HF1.out]; simp only [IntKind.wrap_i64, wrap64]; omega
  have G1 := Lib.hid g1
  have G2 := Lib.hid g2
  have G3 := Lib.hid g3
  have G4 := Lib.hid g4
  clear g1 g2 g3 g4
  have hmx : Tryd.prog.follows .mixedOrders = true := by kernel_rfl
  refine wp_region_still_tail 10 hmx (by kernel_rfl) ?_
  change wpStill _ _ w1.drew _ _ _
  simp only [List.take_succ_cons, List.take_zero, List.drop_succ_cons, List.drop_zero]
  have c2d : w1.drew.cell? ⟨w.heap.size + 1, 2, none⟩ = some (.int .i64 1) := c2
  have fzd : w1.drew.frozen? ⟨w.heap.size + 1, 2, none⟩ = false := fz
  still_step
  still_step
  still_step
  still_step
  still_call ((WK.out w1.drew).mono fun _ _ h => ⟨h.1, h.2.symm⟩)
  repeat still_step
  refine wpStill_nil ?_
  change wpList _ _ _ _ _ w1.drew
  rw [G1.out, G2.out, G3.out, G4.out]
  have xr : w1.drew.heap[w.heap.size]? = some (.cells #[.int .i64 0, .int .i64 0, .int .i64 0] 39 (0, 0)) := HR1.out
  have xd : w1.drew.heap[w.heap.size + 1]? = some (.cells #[.int .i64 y, .int .i64 m, .int .i64 1] 39 (0, 0)) := HD1.out
  have xb : Below w.heap.size w w1.drew := HB1.out.drew
  generalize w1.drew = X at *
  have d0 : X.cell? ⟨w.heap.size + 1, 0, none⟩ = some (.int .i64 y) := cell_of_row X _ 0 _ _ _ xd
  have d1 : X.cell? ⟨w.heap.size + 1, 1, none⟩ = some (.int .i64 m) := cell_of_row X _ 1 _ _ _ xd
  have XR := Lib.hid xr
  have XD := Lib.hid xd
  have XB := Lib.hid xb
  clear xr xd xb c2 fz HR1 HD1 HB1 G1 G2 G3 G4
  have hA : ((X.setCell ⟨w.heap.size + 1, 2, none⟩ (.int .i64 F1)).setCell ⟨w.heap.size + 1, 2, none⟩ (.int .i64 (F1))).cell? ⟨w.heap.size + 1, 2, none⟩ = some (.int .i64 (F1)) :=
    World.cell?_setCell_same _ _ _ (World.cell?_setCell_same _ _ _ c2d)
  have hY : Below w.heap.size w ((X.setCell ⟨w.heap.size + 1, 2, none⟩ (.int .i64 F1)).setCell ⟨w.heap.size + 1, 2, none⟩ (.int .i64 (F1))) := (XB.out.setCell (p := ⟨w.heap.size + 1, 2, none⟩) (by simp) _).setCell (p := ⟨w.heap.size + 1, 2, none⟩) (by simp) _
  have hYr := (heap_setCell_other (X.setCell ⟨w.heap.size + 1, 2, none⟩ (.int .i64 F1)) ⟨w.heap.size + 1, 2, none⟩ w.heap.size (.int .i64 (F1)) (by simp)).trans ((heap_setCell_other X ⟨w.heap.size + 1, 2, none⟩ w.heap.size (.int .i64 F1) (by simp)).trans XR.out)
  have hYd := heap_setCell_same _ (w.heap.size + 1) 2 _ _ (.int .i64 (F1)) (heap_setCell_same X (w.heap.size + 1) 2 _ _ (.int .i64 F1) XD.out)
  have HY := Lib.hid hY
  have HYR := Lib.hid hYr
  have HYD := Lib.hid hYd
  clear hY hYr hYd
  go_wp2_with fail
  generalize hYY : ((X.setCell ⟨w.heap.size + 1, 2, none⟩ (.int .i64 F1)).setCell ⟨w.heap.size + 1, 2, none⟩ (.int .i64 (F1))) = Y at *
  refine (CHK.out _ (HT.out _ HY.out)).mono ?_
  rintro e w2 ⟨rfl, hB2⟩
  have hlt : w.heap.size + 1 < Y.heap.size := (Array.getElem?_eq_some_iff.1 HYD.out).1
  have yr := (hB2.block w.heap.size (by omega)).trans HYR.out
  have yd := (hB2.block (w.heap.size + 1) hlt).trans HYD.out
  have yb := HY.out.trans (hB2.mono HY.out.size)
  have r0 : w2.cell? ⟨w.heap.size, 0, none⟩ = some (.int .i64 0) := cell_of_row w2 _ 0 _ _ _ yr
  have r1 : w2.cell? ⟨w.heap.size, 1, none⟩ = some (.int .i64 0) := cell_of_row w2 _ 1 _ _ _ yr
  have r2 : w2.cell? ⟨w.heap.size, 2, none⟩ = some (.int .i64 0) := cell_of_row w2 _ 2 _ _ _ yr
  have f0 := frozen_of_row w2 w.heap.size 0 _ _ yr
  have f1 := frozen_of_row w2 w.heap.size 1 _ _ yr
  have f2 := frozen_of_row w2 w.heap.size 2 _ _ yr
  have e0 : w2.cell? ⟨w.heap.size + 1, 0, none⟩ = some (.int .i64 y) := cell_of_row w2 _ 0 _ _ _ yd
  have e1 : w2.cell? ⟨w.heap.size + 1, 1, none⟩ = some (.int .i64 m) := cell_of_row w2 _ 1 _ _ _ yd
  have e2 : w2.cell? ⟨w.heap.size + 1, 2, none⟩ = some (.int .i64 (F1)) := cell_of_row w2 _ 2 _ _ _ yd
  have YR := Lib.hid yr
  have YB := Lib.hid yb
  clear hB2 yr yd yb HYR HYD HY CHK hYY d0 d1 c2d fzd hA
  by_cases hle : F1 ≤ L
  · rw [if_pos hle]
    have HLE := Lib.hid hle
    clear hle
    go_wp2
    have hrow := heap_setCell_same _ w.heap.size 2 _ _ (.int .i64 (F1)) (heap_setCell_same _ w.heap.size 1 _ _ (.int .i64 m) (heap_setCell_same w2 w.heap.size 0 _ _ (.int .i64 y) YR.out))
    refine bodyPost_ret (results_nth rfl rfl hrow) rfl ?_
    exact ⟨by rw [HRV.out, if_pos (by have := HLE.out; omega)], ((YB.out.setCell (p := ⟨w.heap.size, 0, none⟩) (by simp) _).setCell (p := ⟨w.heap.size, 1, none⟩) (by simp) _).setCell (p := ⟨w.heap.size, 2, none⟩) (by simp) _⟩
  · rw [if_neg hle]
    have HLE := Lib.hid hle
    clear hle
    go_wp2
    have hrow := heap_setCell_same _ w.heap.size 2 _ _ (.int .i64 0) (heap_setCell_same _ w.heap.size 1 _ _ (.int .i64 0) (heap_setCell_same w2 w.heap.size 0 _ _ (.int .i64 0) YR.out))
    refine bodyPost_ret (results_nth rfl rfl hrow) rfl ?_
    exact ⟨by rw [HRV.out, if_neg (by have := HLE.out; omega)], ((YB.out.setCell (p := ⟨w.heap.size, 0, none⟩) (by simp) _).setCell (p := ⟨w.heap.size, 1, none⟩) (by simp) _).setCell (p := ⟨w.heap.size, 2, none⟩) (by simp) _⟩
set_option maxRecDepth 100000 in
set_option maxHeartbeats 4000000 in
theorem nth_2 (y m wd : Int) (hm : May y m 1) (hw1 : 1 ≤ wd) (hw7 : wd ≤ 7) (w : World) (hT : Tabs w) :
    Calls Tryd.prog 69 #[.int .i64 y, .int .i64 m, .int .i64 wd, .int .i64 2] w fun e w' => e = .returned (if nthD y m wd 2 ≤ dlen y m then .tuple #[dateV y m (nthD y m wd 2), .int .i64 0] else .tuple #[dateV 0 0 0, .int .i64 60]) ∧ Below w.heap.size w w' := by
  have hb0 := ((Below.refl _ w).alloc (Nat.le_refl _) (.cells #[.int .i64 0, .int .i64 0, .int .i64 0] 39)).alloc (by simp) (.cells #[.int .i64 y, .int .i64 m, .int .i64 1] 39)
  have hr := heap_old (heap_alloc_new w (.cells #[.int .i64 0, .int .i64 0, .int .i64 0] 39)) (.cells #[.int .i64 y, .int .i64 m, .int .i64 1] 39)
  have hr2 := heap_alloc_new (w.alloc (.cells #[.int .i64 0, .int .i64 0, .int .i64 0] 39)) (.cells #[.int .i64 y, .int .i64 m, .int .i64 1] 39)
  rw [World.size_alloc] at hr2
  have HT := Lib.hid (show ∀ X, Below w.heap.size w X → Tabs X from fun X hX => hT.next hX)
  have hday := day_yes y m 1 _ (hT.next hb0) hm
  have hdb := day_bounds hm
  have hdg := dlen_ge (y := y) (m := m) hm.2.2.1 hm.2.2.2.1
  have hdl := dlen_bounds (y := y) (m := m)
  have hwkb := wkday_bounds (dayOf y m 1)
  have hwk := fun X => weekday_any (dayOf y m 1) X
  rw [wkB_in hdb.1 hdb.2] at hwk
  have hdays := fun X hX => days_any y m X hX
  have hF1 : nthF y m wd = 1 + (wd - wkday (dayOf y m 1) + 7) % 7 := rfl
  have hfb := nthF_bounds y m wd
  have hnd : nthD y m wd 2 = nthF y m wd + 7 := by unfold nthD; rw [if_neg (by omega)]; omega
  rw [hnd]
  have hchk := fun d X hX => check_any y m d X hX
  have hmay : ∀ d, 1 ≤ d → mayE y m d = if d ≤ dlen y m then 0 else 60 := fun d hd => by
    unfold mayE
    obtain ⟨q1, q2, q3, q4, q5, q6⟩ := hm
    by_cases c : d ≤ dlen y m
    · rw [if_pos c, if_pos ⟨q1, q2, q3, q4, hd, c⟩]
    · rw [if_neg c, if_neg (fun h => c h.2.2.2.2.2)]
  have hym : 1970 ≤ y ∧ y ≤ 9999 ∧ 1 ≤ m ∧ m ≤ 12 := ⟨hm.1, hm.2.1, hm.2.2.1, hm.2.2.2.1⟩
  generalize dayOf y m 1 = N at *
  generalize wkday N = K at *
  generalize nthF y m wd = F1 at *
  have hdays2 : ∀ (X : World), Tabs X → Calls Tryd.prog 65 #[.int .i64 y, .int .i64 m] X fun e w' => e = .returned (.int .i64 (dlen y m)) ∧ X = w' := hdays
  generalize dlen y m = L at *
  have hdn : 1 ≤ F1 + 7 ∧ F1 + 7 ≤ 60 := by omega
  have hchk2 := hchk (F1 + 7)
  rw [hmay (F1 + 7) hdn.1] at hchk2
  have DAY := Lib.hid hday
  have WK := Lib.hid hwk
  have DAYS := Lib.hid hdays2
  have CHK := Lib.hid hchk2
  have HB0 := Lib.hid hb0
  have HR0 := Lib.hid hr
  have HD0 := Lib.hid hr2
  have HF1 := Lib.hid hF1
  obtain ⟨RV, hRV⟩ : ∃ v, v = (if F1 + 7 ≤ L then Value.tuple #[dateV y m (F1 + 7), .int .i64 0] else Value.tuple #[dateV 0 0 0, .int .i64 60]) := ⟨_, rfl⟩
  rw [← hRV]
  have HRV := Lib.hid hRV
  clear hb0 hr hr2 hday hwk hdays hdays2 hchk hchk2 hmay hT hm hF1 hnd hRV
  go_enter Tryd.func69, Tryd.ntmps69
  go_wp2_with fail
  refine DAY.out.mono ?_
  rintro e w1 ⟨rfl, hB1⟩
  have hr1 := (hB1.block w.heap.size (by simp; omega)).trans HR0.out
  have hd1 := (hB1.block (w.heap.size + 1) (by simp)).trans HD0.out
  have HB1 := Lib.hid (HB0.out.trans (hB1.mono (by simp; omega)))
  have c2 : w1.cell? ⟨w.heap.size + 1, 2, none⟩ = some (.int .i64 1) := cell_of_row w1 _ 2 _ _ _ hd1
  have fz := frozen_of_row w1 (w.heap.size + 1) 2 _ _ hd1
  have HR1 := Lib.hid hr1
  have HD1 := Lib.hid hd1
  clear hB1 hr1 hd1 DAY HB0 HR0 HD0
  go_wp2_with fail
  have g1 : IntKind.i64.wrap (wd - K) = wd - K := by simp only [IntKind.wrap_i64, wrap64]; omega
  have g2 : IntKind.i64.wrap (wd - K + 7) = wd - K + 7 := by simp only [IntKind.wrap_i64, wrap64]; omega
  have g3 : (wd - K + 7).tmod 7 = (wd - K + 7) % 7 := Int.tmod_eq_emod_of_nonneg (by omega)
  have g4 : IntKind.i64.wrap (1 + (wd - K + 7) % 7) = F1 := by rw [HF1.out]; simp only [IntKind.wrap_i64, wrap64]; omega
  have G1 := Lib.hid g1
  have G2 := Lib.hid g2
  have G3 := Lib.hid g3
  have G4 := Lib.hid g4
  clear g1 g2 g3 g4
  have hmx : Tryd.prog.follows .mixedOrders = true := by kernel_rfl
  refine wp_region_still_tail 10 hmx (by kernel_rfl) ?_
  change wpStill _ _ w1.drew _ _ _
  simp only [List.take_succ_cons, List.take_zero, List.drop_succ_cons, List.drop_zero]
  have c2d : w1.drew.cell? ⟨w.heap.size + 1, 2, none⟩ = some (.int .i64 1) := c2
  have fzd : w1.drew.frozen? ⟨w.heap.size + 1, 2, none⟩ = false := fz
  still_step
  still_step
  still_step
  still_step
  still_call ((WK.out w1.drew).mono fun _ _ h => ⟨h.1, h.2.symm⟩)
  repeat still_step
  refine wpStill_nil ?_
  change wpList _ _ _ _ _ w1.drew
  rw [G1.out, G2.out, G3.out, G4.out]
  have xr : w1.drew.heap[w.heap.size]? = some (.cells #[.int .i64 0, .int .i64 0, .int .i64 0] 39 (0, 0)) := HR1.out
  have xd : w1.drew.heap[w.heap.size + 1]? = some (.cells #[.int .i64 y, .int .i64 m, .int .i64 1] 39 (0, 0)) := HD1.out
  have xb : Below w.heap.size w w1.drew := HB1.out.drew
  generalize w1.drew = X at *
  have d0 : X.cell? ⟨w.heap.size + 1, 0, none⟩ = some (.int .i64 y) := cell_of_row X _ 0 _ _ _ xd
  have d1 : X.cell? ⟨w.heap.size + 1, 1, none⟩ = some (.int .i64 m) := cell_of_row X _ 1 _ _ _ xd
  have XR := Lib.hid xr
  have XD := Lib.hid xd
  have XB := Lib.hid xb
  clear xr xd xb c2 fz HR1 HD1 HB1 G1 G2 G3 G4
  have hA : ((X.setCell ⟨w.heap.size + 1, 2, none⟩ (.int .i64 F1)).setCell ⟨w.heap.size + 1, 2, none⟩ (.int .i64 (F1 + 7))).cell? ⟨w.heap.size + 1, 2, none⟩ = some (.int .i64 (F1 + 7)) :=
    World.cell?_setCell_same _ _ _ (World.cell?_setCell_same _ _ _ c2d)
  have hY : Below w.heap.size w ((X.setCell ⟨w.heap.size + 1, 2, none⟩ (.int .i64 F1)).setCell ⟨w.heap.size + 1, 2, none⟩ (.int .i64 (F1 + 7))) := (XB.out.setCell (p := ⟨w.heap.size + 1, 2, none⟩) (by simp) _).setCell (p := ⟨w.heap.size + 1, 2, none⟩) (by simp) _
  have hYr := (heap_setCell_other (X.setCell ⟨w.heap.size + 1, 2, none⟩ (.int .i64 F1)) ⟨w.heap.size + 1, 2, none⟩ w.heap.size (.int .i64 (F1 + 7)) (by simp)).trans ((heap_setCell_other X ⟨w.heap.size + 1, 2, none⟩ w.heap.size (.int .i64 F1) (by simp)).trans XR.out)
  have hYd := heap_setCell_same _ (w.heap.size + 1) 2 _ _ (.int .i64 (F1 + 7)) (heap_setCell_same X (w.heap.size + 1) 2 _ _ (.int .i64 F1) XD.out)
  have HY := Lib.hid hY
  have HYR := Lib.hid hYr
  have HYD := Lib.hid hYd
  clear hY hYr hYd
  go_wp2_with fail
  generalize hYY : ((X.setCell ⟨w.heap.size + 1, 2, none⟩ (.int .i64 F1)).setCell ⟨w.heap.size + 1, 2, none⟩ (.int .i64 (F1 + 7))) = Y at *
  refine (CHK.out _ (HT.out _ HY.out)).mono ?_
  rintro e w2 ⟨rfl, hB2⟩
  have hlt : w.heap.size + 1 < Y.heap.size := (Array.getElem?_eq_some_iff.1 HYD.out).1
  have yr := (hB2.block w.heap.size (by omega)).trans HYR.out
  have yd := (hB2.block (w.heap.size + 1) hlt).trans HYD.out
  have yb := HY.out.trans (hB2.mono HY.out.size)
  have r0 : w2.cell? ⟨w.heap.size, 0, none⟩ = some (.int .i64 0) := cell_of_row w2 _ 0 _ _ _ yr
  have r1 : w2.cell? ⟨w.heap.size, 1, none⟩ = some (.int .i64 0) := cell_of_row w2 _ 1 _ _ _ yr
  have r2 : w2.cell? ⟨w.heap.size, 2, none⟩ = some (.int .i64 0) := cell_of_row w2 _ 2 _ _ _ yr
  have f0 := frozen_of_row w2 w.heap.size 0 _ _ yr
  have f1 := frozen_of_row w2 w.heap.size 1 _ _ yr
  have f2 := frozen_of_row w2 w.heap.size 2 _ _ yr
  have e0 : w2.cell? ⟨w.heap.size + 1, 0, none⟩ = some (.int .i64 y) := cell_of_row w2 _ 0 _ _ _ yd
  have e1 : w2.cell? ⟨w.heap.size + 1, 1, none⟩ = some (.int .i64 m) := cell_of_row w2 _ 1 _ _ _ yd
  have e2 : w2.cell? ⟨w.heap.size + 1, 2, none⟩ = some (.int .i64 (F1 + 7)) := cell_of_row w2 _ 2 _ _ _ yd
  have YR := Lib.hid yr
  have YB := Lib.hid yb
  clear hB2 yr yd yb HYR HYD HY CHK hYY d0 d1 c2d fzd hA
  by_cases hle : F1 + 7 ≤ L
  · rw [if_pos hle]
    have HLE := Lib.hid hle
    clear hle
    go_wp2
    have hrow := heap_setCell_same _ w.heap.size 2 _ _ (.int .i64 (F1 + 7)) (heap_setCell_same _ w.heap.size 1 _ _ (.int .i64 m) (heap_setCell_same w2 w.heap.size 0 _ _ (.int .i64 y) YR.out))
    refine bodyPost_ret (results_nth rfl rfl hrow) rfl ?_
    exact ⟨by rw [HRV.out, if_pos (by have := HLE.out; omega)], ((YB.out.setCell (p := ⟨w.heap.size, 0, none⟩) (by simp) _).setCell (p := ⟨w.heap.size, 1, none⟩) (by simp) _).setCell (p := ⟨w.heap.size, 2, none⟩) (by simp) _⟩
  · rw [if_neg hle]
    have HLE := Lib.hid hle
    clear hle
    go_wp2
    have hrow := heap_setCell_same _ w.heap.size 2 _ _ (.int .i64 0) (heap_setCell_same _ w.heap.size 1 _ _ (.int .i64 0) (heap_setCell_same w2 w.heap.size 0 _ _ (.int .i64 0) YR.out))
    refine bodyPost_ret (results_nth rfl rfl hrow) rfl ?_
    exact ⟨by rw [HRV.out, if_neg (by have := HLE.out; omega)], ((YB.out.setCell (p := ⟨w.heap.size, 0, none⟩) (by simp) _).setCell (p := ⟨w.heap.size, 1, none⟩) (by simp) _).setCell (p := ⟨w.heap.size, 2, none⟩) (by simp) _⟩
set_option maxRecDepth 100000 in
set_option maxHeartbeats 4000000 in
theorem nth_3 (y m wd : Int) (hm : May y m 1) (hw1 : 1 ≤ wd) (hw7 : wd ≤ 7) (w : World) (hT : Tabs w) :
    Calls Tryd.prog 69 #[.int .i64 y, .int .i64 m, .int .i64 wd, .int .i64 3] w fun e w' => e = .returned (if nthD y m wd 3 ≤ dlen y m then .tuple #[dateV y m (nthD y m wd 3), .int .i64 0] else .tuple #[dateV 0 0 0, .int .i64 60]) ∧ Below w.heap.size w w' := by
  have hb0 := ((Below.refl _ w).alloc (Nat.le_refl _) (.cells #[.int .i64 0, .int .i64 0, .int .i64 0] 39)).alloc (by simp) (.cells #[.int .i64 y, .int .i64 m, .int .i64 1] 39)
  have hr := heap_old (heap_alloc_new w (.cells #[.int .i64 0, .int .i64 0, .int .i64 0] 39)) (.cells #[.int .i64 y, .int .i64 m, .int .i64 1] 39)
  have hr2 := heap_alloc_new (w.alloc (.cells #[.int .i64 0, .int .i64 0, .int .i64 0] 39)) (.cells #[.int .i64 y, .int .i64 m, .int .i64 1] 39)
  rw [World.size_alloc] at hr2
  have HT := Lib.hid (show ∀ X, Below w.heap.size w X → Tabs X from fun X hX => hT.next hX)
  have hday := day_yes y m 1 _ (hT.next hb0) hm
  have hdb := day_bounds hm
  have hdg := dlen_ge (y := y) (m := m) hm.2.2.1 hm.2.2.2.1
  have hdl := dlen_bounds (y := y) (m := m)
  have hwkb := wkday_bounds (dayOf y m 1)
  have hwk := fun X => weekday_any (dayOf y m 1) X
  rw [wkB_in hdb.1 hdb.2] at hwk
  have hdays := fun X hX => days_any y m X hX
  have hF1 : nthF y m wd = 1 + (wd - wkday (dayOf y m 1) + 7) % 7 := rfl
  have hfb := nthF_bounds y m wd
  have hnd : nthD y m wd 3 = nthF y m wd + 14 := by unfold nthD; rw [if_neg (by omega)]; omega
  rw [hnd]
  have hchk := fun d X hX => check_any y m d X hX
  have hmay : ∀ d, 1 ≤ d → mayE y m d = if d ≤ dlen y m then 0 else 60 := fun d hd => by
    unfold mayE
    obtain ⟨q1, q2, q3, q4, q5, q6⟩ := hm
    by_cases c : d ≤ dlen y m
    · rw [if_pos c, if_pos ⟨q1, q2, q3, q4, hd, c⟩]
    · rw [if_neg c, if_neg (fun h => c h.2.2.2.2.2)]
  have hym : 1970 ≤ y ∧ y ≤ 9999 ∧ 1 ≤ m ∧ m ≤ 12 := ⟨hm.1, hm.2.1, hm.2.2.1, hm.2.2.2.1⟩
  generalize dayOf y m 1 = N at *
  generalize wkday N = K at *
  generalize nthF y m wd = F1 at *
  have hdays2 : ∀ (X : World), Tabs X → Calls Tryd.prog 65 #[.int .i64 y, .int .i64 m] X fun e w' => e = .returned (.int .i64 (dlen y m)) ∧ X = w' := hdays
  generalize dlen y m = L at *
  have hdn : 1 ≤ F1 + 14 ∧ F1 + 14 ≤ 60 := by omega
  have hchk2 := hchk (F1 + 14)
  rw [hmay (F1 + 14) hdn.1] at hchk2
  have DAY := Lib.hid hday
  have WK := Lib.hid hwk
  have DAYS := Lib.hid hdays2
  have CHK := Lib.hid hchk2
  have HB0 := Lib.hid hb0
  have HR0 := Lib.hid hr
  have HD0 := Lib.hid hr2
  have HF1 := Lib.hid hF1
  obtain ⟨RV, hRV⟩ : ∃ v, v = (if F1 + 14 ≤ L then Value.tuple #[dateV y m (F1 + 14), .int .i64 0] else Value.tuple #[dateV 0 0 0, .int .i64 60]) := ⟨_, rfl⟩
  rw [← hRV]
  have HRV := Lib.hid hRV
  clear hb0 hr hr2 hday hwk hdays hdays2 hchk hchk2 hmay hT hm hF1 hnd hRV
  go_enter Tryd.func69, Tryd.ntmps69
  go_wp2_with fail
  refine DAY.out.mono ?_
  rintro e w1 ⟨rfl, hB1⟩
  have hr1 := (hB1.block w.heap.size (by simp; omega)).trans HR0.out
  have hd1 := (hB1.block (w.heap.size + 1) (by simp)).trans HD0.out
  have HB1 := Lib.hid (HB0.out.trans (hB1.mono (by simp; omega)))
  have c2 : w1.cell? ⟨w.heap.size + 1, 2, none⟩ = some (.int .i64 1) := cell_of_row w1 _ 2 _ _ _ hd1
  have fz := frozen_of_row w1 (w.heap.size + 1) 2 _ _ hd1
  have HR1 := Lib.hid hr1
  have HD1 := Lib.hid hd1
  clear hB1 hr1 hd1 DAY HB0 HR0 HD0
  go_wp2_with fail
  have g1 : IntKind.i64.wrap (wd - K) = wd - K := by simp only [IntKind.wrap_i64, wrap64]; omega
  have g2 : IntKind.i64.wrap (wd - K + 7) = wd - K + 7 := by simp only [IntKind.wrap_i64, wrap64]; omega
  have g3 : (wd - K + 7).tmod 7 = (wd - K + 7) % 7 := Int.tmod_eq_emod_of_nonneg (by omega)
  have g4 : IntKind.i64.wrap (1 + (wd - K + 7) % 7) = F1 := by rw [HF1.out]; simp only [IntKind.wrap_i64, wrap64]; omega
  have G1 := Lib.hid g1
  have G2 := Lib.hid g2
  have G3 := Lib.hid g3
  have G4 := Lib.hid g4
  clear g1 g2 g3 g4
  have hmx : Tryd.prog.follows .mixedOrders = true := by kernel_rfl
  refine wp_region_still_tail 10 hmx (by kernel_rfl) ?_
  change wpStill _ _ w1.drew _ _ _
  simp only [List.take_succ_cons, List.take_zero, List.drop_succ_cons, List.drop_zero]
  have c2d : w1.drew.cell? ⟨w.heap.size + 1, 2, none⟩ = some (.int .i64 1) := c2
  have fzd : w1.drew.frozen? ⟨w.heap.size + 1, 2, none⟩ = false := fz
  still_step
  still_step
  still_step
  still_step
  still_call ((WK.out w1.drew).mono fun _ _ h => ⟨h.1, h.2.symm⟩)
  repeat still_step
  refine wpStill_nil ?_
  change wpList _ _ _ _ _ w1.drew
  rw [G1.out, G2.out, G3.out, G4.out]
  have xr : w1.drew.heap[w.heap.size]? = some (.cells #[.int .i64 0, .int .i64 0, .int .i64 0] 39 (0, 0)) := HR1.out
  have xd : w1.drew.heap[w.heap.size + 1]? = some (.cells #[.int .i64 y, .int .i64 m, .int .i64 1] 39 (0, 0)) := HD1.out
  have xb : Below w.heap.size w w1.drew := HB1.out.drew
  generalize w1.drew = X at *
  have d0 : X.cell? ⟨w.heap.size + 1, 0, none⟩ = some (.int .i64 y) := cell_of_row X _ 0 _ _ _ xd
  have d1 : X.cell? ⟨w.heap.size + 1, 1, none⟩ = some (.int .i64 m) := cell_of_row X _ 1 _ _ _ xd
  have XR := Lib.hid xr
  have XD := Lib.hid xd
  have XB := Lib.hid xb
  clear xr xd xb c2 fz HR1 HD1 HB1 G1 G2 G3 G4
  have hA : ((X.setCell ⟨w.heap.size + 1, 2, none⟩ (.int .i64 F1)).setCell ⟨w.heap.size + 1, 2, none⟩ (.int .i64 (F1 + 14))).cell? ⟨w.heap.size + 1, 2, none⟩ = some (.int .i64 (F1 + 14)) :=
    World.cell?_setCell_same _ _ _ (World.cell?_setCell_same _ _ _ c2d)
  have hY : Below w.heap.size w ((X.setCell ⟨w.heap.size + 1, 2, none⟩ (.int .i64 F1)).setCell ⟨w.heap.size + 1, 2, none⟩ (.int .i64 (F1 + 14))) := (XB.out.setCell (p := ⟨w.heap.size + 1, 2, none⟩) (by simp) _).setCell (p := ⟨w.heap.size + 1, 2, none⟩) (by simp) _
  have hYr := (heap_setCell_other (X.setCell ⟨w.heap.size + 1, 2, none⟩ (.int .i64 F1)) ⟨w.heap.size + 1, 2, none⟩ w.heap.size (.int .i64 (F1 + 14)) (by simp)).trans ((heap_setCell_other X ⟨w.heap.size + 1, 2, none⟩ w.heap.size (.int .i64 F1) (by simp)).trans XR.out)
  have hYd := heap_setCell_same _ (w.heap.size + 1) 2 _ _ (.int .i64 (F1 + 14)) (heap_setCell_same X (w.heap.size + 1) 2 _ _ (.int .i64 F1) XD.out)
  have HY := Lib.hid hY
  have HYR := Lib.hid hYr
  have HYD := Lib.hid hYd
  clear hY hYr hYd
  go_wp2_with fail
  generalize hYY : ((X.setCell ⟨w.heap.size + 1, 2, none⟩ (.int .i64 F1)).setCell ⟨w.heap.size + 1, 2, none⟩ (.int .i64 (F1 + 14))) = Y at *
  refine (CHK.out _ (HT.out _ HY.out)).mono ?_
  rintro e w2 ⟨rfl, hB2⟩
  have hlt : w.heap.size + 1 < Y.heap.size := (Array.getElem?_eq_some_iff.1 HYD.out).1
  have yr := (hB2.block w.heap.size (by omega)).trans HYR.out
  have yd := (hB2.block (w.heap.size + 1) hlt).trans HYD.out
  have yb := HY.out.trans (hB2.mono HY.out.size)
  have r0 : w2.cell? ⟨w.heap.size, 0, none⟩ = some (.int .i64 0) := cell_of_row w2 _ 0 _ _ _ yr
  have r1 : w2.cell? ⟨w.heap.size, 1, none⟩ = some (.int .i64 0) := cell_of_row w2 _ 1 _ _ _ yr
  have r2 : w2.cell? ⟨w.heap.size, 2, none⟩ = some (.int .i64 0) := cell_of_row w2 _ 2 _ _ _ yr
  have f0 := frozen_of_row w2 w.heap.size 0 _ _ yr
  have f1 := frozen_of_row w2 w.heap.size 1 _ _ yr
  have f2 := frozen_of_row w2 w.heap.size 2 _ _ yr
  have e0 : w2.cell? ⟨w.heap.size + 1, 0, none⟩ = some (.int .i64 y) := cell_of_row w2 _ 0 _ _ _ yd
  have e1 : w2.cell? ⟨w.heap.size + 1, 1, none⟩ = some (.int .i64 m) := cell_of_row w2 _ 1 _ _ _ yd
  have e2 : w2.cell? ⟨w.heap.size + 1, 2, none⟩ = some (.int .i64 (F1 + 14)) := cell_of_row w2 _ 2 _ _ _ yd
  have YR := Lib.hid yr
  have YB := Lib.hid yb
  clear hB2 yr yd yb HYR HYD HY CHK hYY d0 d1 c2d fzd hA
  by_cases hle : F1 + 14 ≤ L
  · rw [if_pos hle]
    have HLE := Lib.hid hle
    clear hle
    go_wp2
    have hrow := heap_setCell_same _ w.heap.size 2 _ _ (.int .i64 (F1 + 14)) (heap_setCell_same _ w.heap.size 1 _ _ (.int .i64 m) (heap_setCell_same w2 w.heap.size 0 _ _ (.int .i64 y) YR.out))
    refine bodyPost_ret (results_nth rfl rfl hrow) rfl ?_
    exact ⟨by rw [HRV.out, if_pos (by have := HLE.out; omega)], ((YB.out.setCell (p := ⟨w.heap.size, 0, none⟩) (by simp) _).setCell (p := ⟨w.heap.size, 1, none⟩) (by simp) _).setCell (p := ⟨w.heap.size, 2, none⟩) (by simp) _⟩
  · rw [if_neg hle]
    have HLE := Lib.hid hle
    clear hle
    go_wp2
    have hrow := heap_setCell_same _ w.heap.size 2 _ _ (.int .i64 0) (heap_setCell_same _ w.heap.size 1 _ _ (.int .i64 0) (heap_setCell_same w2 w.heap.size 0 _ _ (.int .i64 0) YR.out))
    refine bodyPost_ret (results_nth rfl rfl hrow) rfl ?_
    exact ⟨by rw [HRV.out, if_neg (by have := HLE.out; omega)], ((YB.out.setCell (p := ⟨w.heap.size, 0, none⟩) (by simp) _).setCell (p := ⟨w.heap.size, 1, none⟩) (by simp) _).setCell (p := ⟨w.heap.size, 2, none⟩) (by simp) _⟩
set_option maxRecDepth 100000 in
set_option maxHeartbeats 4000000 in
theorem nth_4 (y m wd : Int) (hm : May y m 1) (hw1 : 1 ≤ wd) (hw7 : wd ≤ 7) (w : World) (hT : Tabs w) :
    Calls Tryd.prog 69 #[.int .i64 y, .int .i64 m, .int .i64 wd, .int .i64 4] w fun e w' => e = .returned (if nthD y m wd 4 ≤ dlen y m then .tuple #[dateV y m (nthD y m wd 4), .int .i64 0] else .tuple #[dateV 0 0 0, .int .i64 60]) ∧ Below w.heap.size w w' := by
  have hb0 := ((Below.refl _ w).alloc (Nat.le_refl _) (.cells #[.int .i64 0, .int .i64 0, .int .i64 0] 39)).alloc (by simp) (.cells #[.int .i64 y, .int .i64 m, .int .i64 1] 39)
  have hr := heap_old (heap_alloc_new w (.cells #[.int .i64 0, .int .i64 0, .int .i64 0] 39)) (.cells #[.int .i64 y, .int .i64 m, .int .i64 1] 39)
  have hr2 := heap_alloc_new (w.alloc (.cells #[.int .i64 0, .int .i64 0, .int .i64 0] 39)) (.cells #[.int .i64 y, .int .i64 m, .int .i64 1] 39)
  rw [World.size_alloc] at hr2
  have HT := Lib.hid (show ∀ X, Below w.heap.size w X → Tabs X from fun X hX => hT.next hX)
  have hday := day_yes y m 1 _ (hT.next hb0) hm
  have hdb := day_bounds hm
  have hdg := dlen_ge (y := y) (m := m) hm.2.2.1 hm.2.2.2.1
  have hdl := dlen_bounds (y := y) (m := m)
  have hwkb := wkday_bounds (dayOf y m 1)
  have hwk := fun X => weekday_any (dayOf y m 1) X
  rw [wkB_in hdb.1 hdb.2] at hwk
  have hdays := fun X hX => days_any y m X hX
  have hF1 : nthF y m wd = 1 + (wd - wkday (dayOf y m 1) + 7) % 7 := rfl
  have hfb := nthF_bounds y m wd
  have hnd : nthD y m wd 4 = nthF y m wd + 21 := by unfold nthD; rw [if_neg (by omega)]; omega
  rw [hnd]
  have hchk := fun d X hX => check_any y m d X hX
  have hmay : ∀ d, 1 ≤ d → mayE y m d = if d ≤ dlen y m then 0 else 60 := fun d hd => by
    unfold mayE
    obtain ⟨q1, q2, q3, q4, q5, q6⟩ := hm
    by_cases c : d ≤ dlen y m
    · rw [if_pos c, if_pos ⟨q1, q2, q3, q4, hd, c⟩]
    · rw [if_neg c, if_neg (fun h => c h.2.2.2.2.2)]
  have hym : 1970 ≤ y ∧ y ≤ 9999 ∧ 1 ≤ m ∧ m ≤ 12 := ⟨hm.1, hm.2.1, hm.2.2.1, hm.2.2.2.1⟩
  generalize dayOf y m 1 = N at *
  generalize wkday N = K at *
  generalize nthF y m wd = F1 at *
  have hdays2 : ∀ (X : World), Tabs X → Calls Tryd.prog 65 #[.int .i64 y, .int .i64 m] X fun e w' => e = .returned (.int .i64 (dlen y m)) ∧ X = w' := hdays
  generalize dlen y m = L at *
  have hdn : 1 ≤ F1 + 21 ∧ F1 + 21 ≤ 60 := by omega
  have hchk2 := hchk (F1 + 21)
  rw [hmay (F1 + 21) hdn.1] at hchk2
  have DAY := Lib.hid hday
  have WK := Lib.hid hwk
  have DAYS := Lib.hid hdays2
  have CHK := Lib.hid hchk2
  have HB0 := Lib.hid hb0
  have HR0 := Lib.hid hr
  have HD0 := Lib.hid hr2
  have HF1 := Lib.hid hF1
  obtain ⟨RV, hRV⟩ : ∃ v, v = (if F1 + 21 ≤ L then Value.tuple #[dateV y m (F1 + 21), .int .i64 0] else Value.tuple #[dateV 0 0 0, .int .i64 60]) := ⟨_, rfl⟩
  rw [← hRV]
  have HRV := Lib.hid hRV
  clear hb0 hr hr2 hday hwk hdays hdays2 hchk hchk2 hmay hT hm hF1 hnd hRV
  go_enter Tryd.func69, Tryd.ntmps69
  go_wp2_with fail
  refine DAY.out.mono ?_
  rintro e w1 ⟨rfl, hB1⟩
  have hr1 := (hB1.block w.heap.size (by simp; omega)).trans HR0.out
  have hd1 := (hB1.block (w.heap.size + 1) (by simp)).trans HD0.out
  have HB1 := Lib.hid (HB0.out.trans (hB1.mono (by simp; omega)))
  have c2 : w1.cell? ⟨w.heap.size + 1, 2, none⟩ = some (.int .i64 1) := cell_of_row w1 _ 2 _ _ _ hd1
  have fz := frozen_of_row w1 (w.heap.size + 1) 2 _ _ hd1
  have HR1 := Lib.hid hr1
  have HD1 := Lib.hid hd1
  clear hB1 hr1 hd1 DAY HB0 HR0 HD0
  go_wp2_with fail
  have g1 : IntKind.i64.wrap (wd - K) = wd - K := by simp only [IntKind.wrap_i64, wrap64]; omega
  have g2 : IntKind.i64.wrap (wd - K + 7) = wd - K + 7 := by simp only [IntKind.wrap_i64, wrap64]; omega
  have g3 : (wd - K + 7).tmod 7 = (wd - K + 7) % 7 := Int.tmod_eq_emod_of_nonneg (by omega)
  have g4 : IntKind.i64.wrap (1 + (wd - K + 7) % 7) = F1 := by rw [HF1.out]; simp only [IntKind.wrap_i64, wrap64]; omega
  have G1 := Lib.hid g1
  have G2 := Lib.hid g2
  have G3 := Lib.hid g3
  have G4 := Lib.hid g4
  clear g1 g2 g3 g4
  have hmx : Tryd.prog.follows .mixedOrders = true := by kernel_rfl
  refine wp_region_still_tail 10 hmx (by kernel_rfl) ?_
  change wpStill _ _ w1.drew _ _ _
  simp only [List.take_succ_cons, List.take_zero, List.drop_succ_cons, List.drop_zero]
  have c2d : w1.drew.cell? ⟨w.heap.size + 1, 2, none⟩ = some (.int .i64 1) := c2
  have fzd : w1.drew.frozen? ⟨w.heap.size + 1, 2, none⟩ = false := fz
  still_step
  still_step
  still_step
  still_step
  still_call ((WK.out w1.drew).mono fun _ _ h => ⟨h.1, h.2.symm⟩)
  repeat still_step
  refine wpStill_nil ?_
  change wpList _ _ _ _ _ w1.drew
  rw [G1.out, G2.out, G3.out, G4.out]
  have xr : w1.drew.heap[w.heap.size]? = some (.cells #[.int .i64 0, .int .i64 0, .int .i64 0] 39 (0, 0)) := HR1.out
  have xd : w1.drew.heap[w.heap.size + 1]? = some (.cells #[.int .i64 y, .int .i64 m, .int .i64 1] 39 (0, 0)) := HD1.out
  have xb : Below w.heap.size w w1.drew := HB1.out.drew
  generalize w1.drew = X at *
  have d0 : X.cell? ⟨w.heap.size + 1, 0, none⟩ = some (.int .i64 y) := cell_of_row X _ 0 _ _ _ xd
  have d1 : X.cell? ⟨w.heap.size + 1, 1, none⟩ = some (.int .i64 m) := cell_of_row X _ 1 _ _ _ xd
  have XR := Lib.hid xr
  have XD := Lib.hid xd
  have XB := Lib.hid xb
  clear xr xd xb c2 fz HR1 HD1 HB1 G1 G2 G3 G4
  have hA : ((X.setCell ⟨w.heap.size + 1, 2, none⟩ (.int .i64 F1)).setCell ⟨w.heap.size + 1, 2, none⟩ (.int .i64 (F1 + 21))).cell? ⟨w.heap.size + 1, 2, none⟩ = some (.int .i64 (F1 + 21)) :=
    World.cell?_setCell_same _ _ _ (World.cell?_setCell_same _ _ _ c2d)
  have hY : Below w.heap.size w ((X.setCell ⟨w.heap.size + 1, 2, none⟩ (.int .i64 F1)).setCell ⟨w.heap.size + 1, 2, none⟩ (.int .i64 (F1 + 21))) := (XB.out.setCell (p := ⟨w.heap.size + 1, 2, none⟩) (by simp) _).setCell (p := ⟨w.heap.size + 1, 2, none⟩) (by simp) _
  have hYr := (heap_setCell_other (X.setCell ⟨w.heap.size + 1, 2, none⟩ (.int .i64 F1)) ⟨w.heap.size + 1, 2, none⟩ w.heap.size (.int .i64 (F1 + 21)) (by simp)).trans ((heap_setCell_other X ⟨w.heap.size + 1, 2, none⟩ w.heap.size (.int .i64 F1) (by simp)).trans XR.out)
  have hYd := heap_setCell_same _ (w.heap.size + 1) 2 _ _ (.int .i64 (F1 + 21)) (heap_setCell_same X (w.heap.size + 1) 2 _ _ (.int .i64 F1) XD.out)
  have HY := Lib.hid hY
  have HYR := Lib.hid hYr
  have HYD := Lib.hid hYd
  clear hY hYr hYd
  go_wp2_with fail
  generalize hYY : ((X.setCell ⟨w.heap.size + 1, 2, none⟩ (.int .i64 F1)).setCell ⟨w.heap.size + 1, 2, none⟩ (.int .i64 (F1 + 21))) = Y at *
  refine (CHK.out _ (HT.out _ HY.out)).mono ?_
  rintro e w2 ⟨rfl, hB2⟩
  have hlt : w.heap.size + 1 < Y.heap.size := (Array.getElem?_eq_some_iff.1 HYD.out).1
  have yr := (hB2.block w.heap.size (by omega)).trans HYR.out
  have yd := (hB2.block (w.heap.size + 1) hlt).trans HYD.out
  have yb := HY.out.trans (hB2.mono HY.out.size)
  have r0 : w2.cell? ⟨w.heap.size, 0, none⟩ = some (.int .i64 0) := cell_of_row w2 _ 0 _ _ _ yr
  have r1 : w2.cell? ⟨w.heap.size, 1, none⟩ = some (.int .i64 0) := cell_of_row w2 _ 1 _ _ _ yr
  have r2 : w2.cell? ⟨w.heap.size, 2, none⟩ = some (.int .i64 0) := cell_of_row w2 _ 2 _ _ _ yr
  have f0 := frozen_of_row w2 w.heap.size 0 _ _ yr
  have f1 := frozen_of_row w2 w.heap.size 1 _ _ yr
  have f2 := frozen_of_row w2 w.heap.size 2 _ _ yr
  have e0 : w2.cell? ⟨w.heap.size + 1, 0, none⟩ = some (.int .i64 y) := cell_of_row w2 _ 0 _ _ _ yd
  have e1 : w2.cell? ⟨w.heap.size + 1, 1, none⟩ = some (.int .i64 m) := cell_of_row w2 _ 1 _ _ _ yd
  have e2 : w2.cell? ⟨w.heap.size + 1, 2, none⟩ = some (.int .i64 (F1 + 21)) := cell_of_row w2 _ 2 _ _ _ yd
  have YR := Lib.hid yr
  have YB := Lib.hid yb
  clear hB2 yr yd yb HYR HYD HY CHK hYY d0 d1 c2d fzd hA
  by_cases hle : F1 + 21 ≤ L
  · rw [if_pos hle]
    have HLE := Lib.hid hle
    clear hle
    go_wp2
    have hrow := heap_setCell_same _ w.heap.size 2 _ _ (.int .i64 (F1 + 21)) (heap_setCell_same _ w.heap.size 1 _ _ (.int .i64 m) (heap_setCell_same w2 w.heap.size 0 _ _ (.int .i64 y) YR.out))
    refine bodyPost_ret (results_nth rfl rfl hrow) rfl ?_
    exact ⟨by rw [HRV.out, if_pos (by have := HLE.out; omega)], ((YB.out.setCell (p := ⟨w.heap.size, 0, none⟩) (by simp) _).setCell (p := ⟨w.heap.size, 1, none⟩) (by simp) _).setCell (p := ⟨w.heap.size, 2, none⟩) (by simp) _⟩
  · rw [if_neg hle]
    have HLE := Lib.hid hle
    clear hle
    go_wp2
    have hrow := heap_setCell_same _ w.heap.size 2 _ _ (.int .i64 0) (heap_setCell_same _ w.heap.size 1 _ _ (.int .i64 0) (heap_setCell_same w2 w.heap.size 0 _ _ (.int .i64 0) YR.out))
    refine bodyPost_ret (results_nth rfl rfl hrow) rfl ?_
    exact ⟨by rw [HRV.out, if_neg (by have := HLE.out; omega)], ((YB.out.setCell (p := ⟨w.heap.size, 0, none⟩) (by simp) _).setCell (p := ⟨w.heap.size, 1, none⟩) (by simp) _).setCell (p := ⟨w.heap.size, 2, none⟩) (by simp) _⟩
set_option maxRecDepth 100000 in
set_option maxHeartbeats 4000000 in
theorem nth_5 (y m wd : Int) (hm : May y m 1) (hw1 : 1 ≤ wd) (hw7 : wd ≤ 7) (w : World) (hT : Tabs w) :
    Calls Tryd.prog 69 #[.int .i64 y, .int .i64 m, .int .i64 wd, .int .i64 5] w fun e w' => e = .returned (if nthD y m wd 5 ≤ dlen y m then .tuple #[dateV y m (nthD y m wd 5), .int .i64 0] else .tuple #[dateV 0 0 0, .int .i64 60]) ∧ Below w.heap.size w w' := by
  have hb0 := ((Below.refl _ w).alloc (Nat.le_refl _) (.cells #[.int .i64 0, .int .i64 0, .int .i64 0] 39)).alloc (by simp) (.cells #[.int .i64 y, .int .i64 m, .int .i64 1] 39)
  have hr := heap_old (heap_alloc_new w (.cells #[.int .i64 0, .int .i64 0, .int .i64 0] 39)) (.cells #[.int .i64 y, .int .i64 m, .int .i64 1] 39)
  have hr2 := heap_alloc_new (w.alloc (.cells #[.int .i64 0, .int .i64 0, .int .i64 0] 39)) (.cells #[.int .i64 y, .int .i64 m, .int .i64 1] 39)
  rw [World.size_alloc] at hr2
  have HT := Lib.hid (show ∀ X, Below w.heap.size w X → Tabs X from fun X hX => hT.next hX)
  have hday := day_yes y m 1 _ (hT.next hb0) hm
  have hdb := day_bounds hm
  have hdg := dlen_ge (y := y) (m := m) hm.2.2.1 hm.2.2.2.1
  have hdl := dlen_bounds (y := y) (m := m)
  have hwkb := wkday_bounds (dayOf y m 1)
  have hwk := fun X => weekday_any (dayOf y m 1) X
  rw [wkB_in hdb.1 hdb.2] at hwk
  have hdays := fun X hX => days_any y m X hX
  have hF1 : nthF y m wd = 1 + (wd - wkday (dayOf y m 1) + 7) % 7 := rfl
  have hfb := nthF_bounds y m wd
  have hnd : nthD y m wd 5 = nthF y m wd + 28 := by unfold nthD; rw [if_neg (by omega)]; omega
  rw [hnd]
  have hchk := fun d X hX => check_any y m d X hX
  have hmay : ∀ d, 1 ≤ d → mayE y m d = if d ≤ dlen y m then 0 else 60 := fun d hd => by
    unfold mayE
    obtain ⟨q1, q2, q3, q4, q5, q6⟩ := hm
    by_cases c : d ≤ dlen y m
    · rw [if_pos c, if_pos ⟨q1, q2, q3, q4, hd, c⟩]
    · rw [if_neg c, if_neg (fun h => c h.2.2.2.2.2)]
  have hym : 1970 ≤ y ∧ y ≤ 9999 ∧ 1 ≤ m ∧ m ≤ 12 := ⟨hm.1, hm.2.1, hm.2.2.1, hm.2.2.2.1⟩
  generalize dayOf y m 1 = N at *
  generalize wkday N = K at *
  generalize nthF y m wd = F1 at *
  have hdays2 : ∀ (X : World), Tabs X → Calls Tryd.prog 65 #[.int .i64 y, .int .i64 m] X fun e w' => e = .returned (.int .i64 (dlen y m)) ∧ X = w' := hdays
  generalize dlen y m = L at *
  have hdn : 1 ≤ F1 + 28 ∧ F1 + 28 ≤ 60 := by omega
  have hchk2 := hchk (F1 + 28)
  rw [hmay (F1 + 28) hdn.1] at hchk2
  have DAY := Lib.hid hday
  have WK := Lib.hid hwk
  have DAYS := Lib.hid hdays2
  have CHK := Lib.hid hchk2
  have HB0 := Lib.hid hb0
  have HR0 := Lib.hid hr
  have HD0 := Lib.hid hr2
  have HF1 := Lib.hid hF1
  obtain ⟨RV, hRV⟩ : ∃ v, v = (if F1 + 28 ≤ L then Value.tuple #[dateV y m (F1 + 28), .int .i64 0] else Value.tuple #[dateV 0 0 0, .int .i64 60]) := ⟨_, rfl⟩
  rw [← hRV]
  have HRV := Lib.hid hRV
  clear hb0 hr hr2 hday hwk hdays hdays2 hchk hchk2 hmay hT hm hF1 hnd hRV
  go_enter Tryd.func69, Tryd.ntmps69
  go_wp2_with fail
  refine DAY.out.mono ?_
  rintro e w1 ⟨rfl, hB1⟩
  have hr1 := (hB1.block w.heap.size (by simp; omega)).trans HR0.out
  have hd1 := (hB1.block (w.heap.size + 1) (by simp)).trans HD0.out
  have HB1 := Lib.hid (HB0.out.trans (hB1.mono (by simp; omega)))
  have c2 : w1.cell? ⟨w.heap.size + 1, 2, none⟩ = some (.int .i64 1) := cell_of_row w1 _ 2 _ _ _ hd1
  have fz := frozen_of_row w1 (w.heap.size + 1) 2 _ _ hd1
  have HR1 := Lib.hid hr1
  have HD1 := Lib.hid hd1
  clear hB1 hr1 hd1 DAY HB0 HR0 HD0
  go_wp2_with fail
  have g1 : IntKind.i64.wrap (wd - K) = wd - K := by simp only [IntKind.wrap_i64, wrap64]; omega
  have g2 : IntKind.i64.wrap (wd - K + 7) = wd - K + 7 := by simp only [IntKind.wrap_i64, wrap64]; omega
  have g3 : (wd - K + 7).tmod 7 = (wd - K + 7) % 7 := Int.tmod_eq_emod_of_nonneg (by omega)
  have g4 : IntKind.i64.wrap (1 + (wd - K + 7) % 7) = F1 := by rw [HF1.out]; simp only [IntKind.wrap_i64, wrap64]; omega
  have G1 := Lib.hid g1
  have G2 := Lib.hid g2
  have G3 := Lib.hid g3
  have G4 := Lib.hid g4
  clear g1 g2 g3 g4
  have hmx : Tryd.prog.follows .mixedOrders = true := by kernel_rfl
  refine wp_region_still_tail 10 hmx (by kernel_rfl) ?_
  change wpStill _ _ w1.drew _ _ _
  simp only [List.take_succ_cons, List.take_zero, List.drop_succ_cons, List.drop_zero]
  have c2d : w1.drew.cell? ⟨w.heap.size + 1, 2, none⟩ = some (.int .i64 1) := c2
  have fzd : w1.drew.frozen? ⟨w.heap.size + 1, 2, none⟩ = false := fz
  still_step
  still_step
  still_step
  still_step
  still_call ((WK.out w1.drew).mono fun _ _ h => ⟨h.1, h.2.symm⟩)
  repeat still_step
  refine wpStill_nil ?_
  change wpList _ _ _ _ _ w1.drew
  rw [G1.out, G2.out, G3.out, G4.out]
  have xr : w1.drew.heap[w.heap.size]? = some (.cells #[.int .i64 0, .int .i64 0, .int .i64 0] 39 (0, 0)) := HR1.out
  have xd : w1.drew.heap[w.heap.size + 1]? = some (.cells #[.int .i64 y, .int .i64 m, .int .i64 1] 39 (0, 0)) := HD1.out
  have xb : Below w.heap.size w w1.drew := HB1.out.drew
  generalize w1.drew = X at *
  have d0 : X.cell? ⟨w.heap.size + 1, 0, none⟩ = some (.int .i64 y) := cell_of_row X _ 0 _ _ _ xd
  have d1 : X.cell? ⟨w.heap.size + 1, 1, none⟩ = some (.int .i64 m) := cell_of_row X _ 1 _ _ _ xd
  have XR := Lib.hid xr
  have XD := Lib.hid xd
  have XB := Lib.hid xb
  clear xr xd xb c2 fz HR1 HD1 HB1 G1 G2 G3 G4
  have hA : ((X.setCell ⟨w.heap.size + 1, 2, none⟩ (.int .i64 F1)).setCell ⟨w.heap.size + 1, 2, none⟩ (.int .i64 (F1 + 28))).cell? ⟨w.heap.size + 1, 2, none⟩ = some (.int .i64 (F1 + 28)) :=
    World.cell?_setCell_same _ _ _ (World.cell?_setCell_same _ _ _ c2d)
  have hY : Below w.heap.size w ((X.setCell ⟨w.heap.size + 1, 2, none⟩ (.int .i64 F1)).setCell ⟨w.heap.size + 1, 2, none⟩ (.int .i64 (F1 + 28))) := (XB.out.setCell (p := ⟨w.heap.size + 1, 2, none⟩) (by simp) _).setCell (p := ⟨w.heap.size + 1, 2, none⟩) (by simp) _
  have hYr := (heap_setCell_other (X.setCell ⟨w.heap.size + 1, 2, none⟩ (.int .i64 F1)) ⟨w.heap.size + 1, 2, none⟩ w.heap.size (.int .i64 (F1 + 28)) (by simp)).trans ((heap_setCell_other X ⟨w.heap.size + 1, 2, none⟩ w.heap.size (.int .i64 F1) (by simp)).trans XR.out)
  have hYd := heap_setCell_same _ (w.heap.size + 1) 2 _ _ (.int .i64 (F1 + 28)) (heap_setCell_same X (w.heap.size + 1) 2 _ _ (.int .i64 F1) XD.out)
  have HY := Lib.hid hY
  have HYR := Lib.hid hYr
  have HYD := Lib.hid hYd
  clear hY hYr hYd
  go_wp2_with fail
  generalize hYY : ((X.setCell ⟨w.heap.size + 1, 2, none⟩ (.int .i64 F1)).setCell ⟨w.heap.size + 1, 2, none⟩ (.int .i64 (F1 + 28))) = Y at *
  refine (CHK.out _ (HT.out _ HY.out)).mono ?_
  rintro e w2 ⟨rfl, hB2⟩
  have hlt : w.heap.size + 1 < Y.heap.size := (Array.getElem?_eq_some_iff.1 HYD.out).1
  have yr := (hB2.block w.heap.size (by omega)).trans HYR.out
  have yd := (hB2.block (w.heap.size + 1) hlt).trans HYD.out
  have yb := HY.out.trans (hB2.mono HY.out.size)
  have r0 : w2.cell? ⟨w.heap.size, 0, none⟩ = some (.int .i64 0) := cell_of_row w2 _ 0 _ _ _ yr
  have r1 : w2.cell? ⟨w.heap.size, 1, none⟩ = some (.int .i64 0) := cell_of_row w2 _ 1 _ _ _ yr
  have r2 : w2.cell? ⟨w.heap.size, 2, none⟩ = some (.int .i64 0) := cell_of_row w2 _ 2 _ _ _ yr
  have f0 := frozen_of_row w2 w.heap.size 0 _ _ yr
  have f1 := frozen_of_row w2 w.heap.size 1 _ _ yr
  have f2 := frozen_of_row w2 w.heap.size 2 _ _ yr
  have e0 : w2.cell? ⟨w.heap.size + 1, 0, none⟩ = some (.int .i64 y) := cell_of_row w2 _ 0 _ _ _ yd
  have e1 : w2.cell? ⟨w.heap.size + 1, 1, none⟩ = some (.int .i64 m) := cell_of_row w2 _ 1 _ _ _ yd
  have e2 : w2.cell? ⟨w.heap.size + 1, 2, none⟩ = some (.int .i64 (F1 + 28)) := cell_of_row w2 _ 2 _ _ _ yd
  have YR := Lib.hid yr
  have YB := Lib.hid yb
  clear hB2 yr yd yb HYR HYD HY CHK hYY d0 d1 c2d fzd hA
  by_cases hle : F1 + 28 ≤ L
  · rw [if_pos hle]
    have HLE := Lib.hid hle
    clear hle
    go_wp2
    have hrow := heap_setCell_same _ w.heap.size 2 _ _ (.int .i64 (F1 + 28)) (heap_setCell_same _ w.heap.size 1 _ _ (.int .i64 m) (heap_setCell_same w2 w.heap.size 0 _ _ (.int .i64 y) YR.out))
    refine bodyPost_ret (results_nth rfl rfl hrow) rfl ?_
    exact ⟨by rw [HRV.out, if_pos (by have := HLE.out; omega)], ((YB.out.setCell (p := ⟨w.heap.size, 0, none⟩) (by simp) _).setCell (p := ⟨w.heap.size, 1, none⟩) (by simp) _).setCell (p := ⟨w.heap.size, 2, none⟩) (by simp) _⟩
  · rw [if_neg hle]
    have HLE := Lib.hid hle
    clear hle
    go_wp2
    have hrow := heap_setCell_same _ w.heap.size 2 _ _ (.int .i64 0) (heap_setCell_same _ w.heap.size 1 _ _ (.int .i64 0) (heap_setCell_same w2 w.heap.size 0 _ _ (.int .i64 0) YR.out))
    refine bodyPost_ret (results_nth rfl rfl hrow) rfl ?_
    exact ⟨by rw [HRV.out, if_neg (by have := HLE.out; omega)], ((YB.out.setCell (p := ⟨w.heap.size, 0, none⟩) (by simp) _).setCell (p := ⟨w.heap.size, 1, none⟩) (by simp) _).setCell (p := ⟨w.heap.size, 2, none⟩) (by simp) _⟩
set_option maxRecDepth 100000 in
set_option maxHeartbeats 4000000 in
theorem nth_last (y m wd : Int) (hm : May y m 1) (hw1 : 1 ≤ wd) (hw7 : wd ≤ 7) (w : World) (hT : Tabs w) :
    Calls Tryd.prog 69 #[.int .i64 y, .int .i64 m, .int .i64 wd, .int .i64 (-1)] w fun e w' => e = .returned (if nthD y m wd (-1) ≤ dlen y m then .tuple #[dateV y m (nthD y m wd (-1)), .int .i64 0] else .tuple #[dateV 0 0 0, .int .i64 60]) ∧ Below w.heap.size w w' := by
  have hb0 := ((Below.refl _ w).alloc (Nat.le_refl _) (.cells #[.int .i64 0, .int .i64 0, .int .i64 0] 39)).alloc (by simp) (.cells #[.int .i64 y, .int .i64 m, .int .i64 1] 39)
  have hr := heap_old (heap_alloc_new w (.cells #[.int .i64 0, .int .i64 0, .int .i64 0] 39)) (.cells #[.int .i64 y, .int .i64 m, .int .i64 1] 39)
  have hr2 := heap_alloc_new (w.alloc (.cells #[.int .i64 0, .int .i64 0, .int .i64 0] 39)) (.cells #[.int .i64 y, .int .i64 m, .int .i64 1] 39)
  rw [World.size_alloc] at hr2
  have HT := Lib.hid (show ∀ X, Below w.heap.size w X → Tabs X from fun X hX => hT.next hX)
  have hday := day_yes y m 1 _ (hT.next hb0) hm
  have hdb := day_bounds hm
  have hdg := dlen_ge (y := y) (m := m) hm.2.2.1 hm.2.2.2.1
  have hdl := dlen_bounds (y := y) (m := m)
  have hwkb := wkday_bounds (dayOf y m 1)
  have hwk := fun X => weekday_any (dayOf y m 1) X
  rw [wkB_in hdb.1 hdb.2] at hwk
  have hdays := fun X hX => days_any y m X hX
  have hF1 : nthF y m wd = 1 + (wd - wkday (dayOf y m 1) + 7) % 7 := rfl
  have hfb := nthF_bounds y m wd
  have hnd : nthD y m wd (-1) = nthF y m wd + (dlen y m - nthF y m wd) / 7 * 7 := by unfold nthD; rw [if_pos rfl]
  rw [hnd]
  have hchk := fun d X hX => check_any y m d X hX
  have hmay : ∀ d, 1 ≤ d → mayE y m d = if d ≤ dlen y m then 0 else 60 := fun d hd => by
    unfold mayE
    obtain ⟨q1, q2, q3, q4, q5, q6⟩ := hm
    by_cases c : d ≤ dlen y m
    · rw [if_pos c, if_pos ⟨q1, q2, q3, q4, hd, c⟩]
    · rw [if_neg c, if_neg (fun h => c h.2.2.2.2.2)]
  have hym : 1970 ≤ y ∧ y ≤ 9999 ∧ 1 ≤ m ∧ m ≤ 12 := ⟨hm.1, hm.2.1, hm.2.2.1, hm.2.2.2.1⟩
  generalize dayOf y m 1 = N at *
  generalize wkday N = K at *
  generalize nthF y m wd = F1 at *
  have hdays2 : ∀ (X : World), Tabs X → Calls Tryd.prog 65 #[.int .i64 y, .int .i64 m] X fun e w' => e = .returned (.int .i64 (dlen y m)) ∧ X = w' := hdays
  generalize dlen y m = L at *
  have hdn : 1 ≤ F1 + (L - F1) / 7 * 7 ∧ F1 + (L - F1) / 7 * 7 ≤ 60 := by omega
  have hchk2 := hchk (F1 + (L - F1) / 7 * 7)
  rw [hmay (F1 + (L - F1) / 7 * 7) hdn.1] at hchk2
  have DAY := Lib.hid hday
  have WK := Lib.hid hwk
  have DAYS := Lib.hid hdays2
  have CHK := Lib.hid hchk2
  have HB0 := Lib.hid hb0
  have HR0 := Lib.hid hr
  have HD0 := Lib.hid hr2
  have HF1 := Lib.hid hF1
  obtain ⟨RV, hRV⟩ : ∃ v, v = (if F1 + (L - F1) / 7 * 7 ≤ L then Value.tuple #[dateV y m (F1 + (L - F1) / 7 * 7), .int .i64 0] else Value.tuple #[dateV 0 0 0, .int .i64 60]) := ⟨_, rfl⟩
  rw [← hRV]
  have HRV := Lib.hid hRV
  clear hb0 hr hr2 hday hwk hdays hdays2 hchk hchk2 hmay hT hm hF1 hnd hRV
  go_enter Tryd.func69, Tryd.ntmps69
  go_wp2_with fail
  refine DAY.out.mono ?_
  rintro e w1 ⟨rfl, hB1⟩
  have hr1 := (hB1.block w.heap.size (by simp; omega)).trans HR0.out
  have hd1 := (hB1.block (w.heap.size + 1) (by simp)).trans HD0.out
  have HB1 := Lib.hid (HB0.out.trans (hB1.mono (by simp; omega)))
  have c2 : w1.cell? ⟨w.heap.size + 1, 2, none⟩ = some (.int .i64 1) := cell_of_row w1 _ 2 _ _ _ hd1
  have fz := frozen_of_row w1 (w.heap.size + 1) 2 _ _ hd1
  have HR1 := Lib.hid hr1
  have HD1 := Lib.hid hd1
  clear hB1 hr1 hd1 DAY HB0 HR0 HD0
  go_wp2_with fail
  have g1 : IntKind.i64.wrap (wd - K) = wd - K := by simp only [IntKind.wrap_i64, wrap64]; omega
  have g2 : IntKind.i64.wrap (wd - K + 7) = wd - K + 7 := by simp only [IntKind.wrap_i64, wrap64]; omega
  have g3 : (wd - K + 7).tmod 7 = (wd - K + 7) % 7 := Int.tmod_eq_emod_of_nonneg (by omega)
  have g4 : IntKind.i64.wrap (1 + (wd - K + 7) % 7) = F1 := by rw [HF1.out]; simp only [IntKind.wrap_i64, wrap64]; omega
  have G1 := Lib.hid g1
  have G2 := Lib.hid g2
  have G3 := Lib.hid g3
  have G4 := Lib.hid g4
  clear g1 g2 g3 g4
  have hmx : Tryd.prog.follows .mixedOrders = true := by kernel_rfl
  refine wp_region_still_tail 10 hmx (by kernel_rfl) ?_
  change wpStill _ _ w1.drew _ _ _
  simp only [List.take_succ_cons, List.take_zero, List.drop_succ_cons, List.drop_zero]
  have c2d : w1.drew.cell? ⟨w.heap.size + 1, 2, none⟩ = some (.int .i64 1) := c2
  have fzd : w1.drew.frozen? ⟨w.heap.size + 1, 2, none⟩ = false := fz
  still_step
  still_step
  still_step
  still_step
  still_call ((WK.out w1.drew).mono fun _ _ h => ⟨h.1, h.2.symm⟩)
  repeat still_step
  refine wpStill_nil ?_
  change wpList _ _ _ _ _ w1.drew
  rw [G1.out, G2.out, G3.out, G4.out]
  have xr : w1.drew.heap[w.heap.size]? = some (.cells #[.int .i64 0, .int .i64 0, .int .i64 0] 39 (0, 0)) := HR1.out
  have xd : w1.drew.heap[w.heap.size + 1]? = some (.cells #[.int .i64 y, .int .i64 m, .int .i64 1] 39 (0, 0)) := HD1.out
  have xb : Below w.heap.size w w1.drew := HB1.out.drew
  generalize w1.drew = X at *
  have d0 : X.cell? ⟨w.heap.size + 1, 0, none⟩ = some (.int .i64 y) := cell_of_row X _ 0 _ _ _ xd
  have d1 : X.cell? ⟨w.heap.size + 1, 1, none⟩ = some (.int .i64 m) := cell_of_row X _ 1 _ _ _ xd
  have XR := Lib.hid xr
  have XD := Lib.hid xd
  have XB := Lib.hid xb
  clear xr xd xb c2 fz HR1 HD1 HB1 G1 G2 G3 G4
  have mD : X.setCell ⟨w.heap.size + 1, 2, none⟩ (.int .i64 F1) = X.setCell ⟨w.heap.size + 1, 2, none⟩ (.int .i64 F1) := rfl
  go_wp2_with fail
  have z0 : (X.setCell ⟨w.heap.size + 1, 2, none⟩ (.int .i64 F1)).cell? ⟨w.heap.size + 1, 2, none⟩ = some (.int .i64 F1) := World.cell?_setCell_same _ _ _ c2d
  have z1 : (X.setCell ⟨w.heap.size + 1, 2, none⟩ (.int .i64 F1)).frozen? ⟨w.heap.size + 1, 2, none⟩ = false := (World.frozen?_setCell _ _ _ _).trans fzd
  have zB : Below w.heap.size w (X.setCell ⟨w.heap.size + 1, 2, none⟩ (.int .i64 F1)) := XB.out.setCell (p := ⟨w.heap.size + 1, 2, none⟩) (by simp) _
  have zr := (heap_setCell_other X ⟨w.heap.size + 1, 2, none⟩ w.heap.size (.int .i64 F1) (by simp)).trans XR.out
  have zd := heap_setCell_same X (w.heap.size + 1) 2 _ _ (.int .i64 F1) XD.out
  generalize (X.setCell ⟨w.heap.size + 1, 2, none⟩ (.int .i64 F1)) = Z at *
  have g5 : IntKind.i64.wrap (L - F1) = L - F1 := by simp only [IntKind.wrap_i64, wrap64]; omega
  have g6 : IntKind.i64.wrap ((L - F1) / 7 * 7) = (L - F1) / 7 * 7 := by simp only [IntKind.wrap_i64, wrap64]; omega
  have g7 : IntKind.i64.wrap (F1 + (L - F1) / 7 * 7) = F1 + (L - F1) / 7 * 7 := by simp only [IntKind.wrap_i64, wrap64]; omega
  have g8 : IntKind.i64.wrap ((L - F1).tdiv 7) = (L - F1) / 7 := by rw [Int.tdiv_eq_ediv_of_nonneg (by omega)]; simp only [IntKind.wrap_i64, wrap64]; omega
  have g9 : (L - F1).tdiv 7 = (L - F1) / 7 := Int.tdiv_eq_ediv_of_nonneg (by omega)
  have G5 := Lib.hid g5
  have G6 := Lib.hid g6
  have G7 := Lib.hid g7
  have G8 := Lib.hid g8
  have G9 := Lib.hid g9
  have ZB := Lib.hid zB
  have ZR := Lib.hid zr
  have ZD := Lib.hid zd
  clear g5 g6 g7 g8 g9 zB zr zd XR XD XB d0 d1 c2d fzd mD
  refine wp_region_still_tail 12 hmx (by kernel_rfl) ?_
  change wpStill _ _ Z.drew _ _ _
  simp only [List.take_succ_cons, List.take_zero, List.drop_succ_cons, List.drop_zero]
  have z0d : Z.drew.cell? ⟨w.heap.size + 1, 2, none⟩ = some (.int .i64 F1) := z0
  have z1d : Z.drew.frozen? ⟨w.heap.size + 1, 2, none⟩ = false := z1
  still_step
  still_step
  still_step
  still_step
  still_call ((DAYS.out Z.drew (HT.out _ ZB.out.drew)).mono fun _ _ h => ⟨h.1, h.2.symm⟩)
  repeat still_step
  refine wpStill_nil ?_
  change wpList _ _ _ _ _ Z.drew
  simp only [G5.out, G9.out, G8.out, G6.out, G7.out]
  have hA : (Z.drew.setCell ⟨w.heap.size + 1, 2, none⟩ (.int .i64 (F1 + (L - F1) / 7 * 7))).cell? ⟨w.heap.size + 1, 2, none⟩ = some (.int .i64 (F1 + (L - F1) / 7 * 7)) := World.cell?_setCell_same _ _ _ z0d
  have d0 : Z.drew.cell? ⟨w.heap.size + 1, 0, none⟩ = some (.int .i64 y) := cell_of_row Z.drew _ 0 _ _ _ ZD.out
  have d1 : Z.drew.cell? ⟨w.heap.size + 1, 1, none⟩ = some (.int .i64 m) := cell_of_row Z.drew _ 1 _ _ _ ZD.out
  have hY : Below w.heap.size w (Z.drew.setCell ⟨w.heap.size + 1, 2, none⟩ (.int .i64 (F1 + (L - F1) / 7 * 7))) := ZB.out.drew.setCell (p := ⟨w.heap.size + 1, 2, none⟩) (by simp) _
  have hYr := (heap_setCell_other Z.drew ⟨w.heap.size + 1, 2, none⟩ w.heap.size (.int .i64 (F1 + (L - F1) / 7 * 7)) (by simp)).trans ZR.out
  have hYd := heap_setCell_same Z.drew (w.heap.size + 1) 2 _ _ (.int .i64 (F1 + (L - F1) / 7 * 7)) ZD.out
  have HY := Lib.hid hY
  have HYR := Lib.hid hYr
  have HYD := Lib.hid hYd
  clear hY hYr hYd z0 z1 G5 G6 G7 G8 G9
  generalize Z.drew = U at *
  go_wp2_with fail
  generalize hYY : (U.setCell ⟨w.heap.size + 1, 2, none⟩ (.int .i64 (F1 + (L - F1) / 7 * 7))) = Y at *
  refine (CHK.out _ (HT.out _ HY.out)).mono ?_
  have c2d : True := trivial
  have fzd : True := trivial
  rintro e w2 ⟨rfl, hB2⟩
  have hlt : w.heap.size + 1 < Y.heap.size := (Array.getElem?_eq_some_iff.1 HYD.out).1
  have yr := (hB2.block w.heap.size (by omega)).trans HYR.out
  have yd := (hB2.block (w.heap.size + 1) hlt).trans HYD.out
  have yb := HY.out.trans (hB2.mono HY.out.size)
  have r0 : w2.cell? ⟨w.heap.size, 0, none⟩ = some (.int .i64 0) := cell_of_row w2 _ 0 _ _ _ yr
  have r1 : w2.cell? ⟨w.heap.size, 1, none⟩ = some (.int .i64 0) := cell_of_row w2 _ 1 _ _ _ yr
  have r2 : w2.cell? ⟨w.heap.size, 2, none⟩ = some (.int .i64 0) := cell_of_row w2 _ 2 _ _ _ yr
  have f0 := frozen_of_row w2 w.heap.size 0 _ _ yr
  have f1 := frozen_of_row w2 w.heap.size 1 _ _ yr
  have f2 := frozen_of_row w2 w.heap.size 2 _ _ yr
  have e0 : w2.cell? ⟨w.heap.size + 1, 0, none⟩ = some (.int .i64 y) := cell_of_row w2 _ 0 _ _ _ yd
  have e1 : w2.cell? ⟨w.heap.size + 1, 1, none⟩ = some (.int .i64 m) := cell_of_row w2 _ 1 _ _ _ yd
  have e2 : w2.cell? ⟨w.heap.size + 1, 2, none⟩ = some (.int .i64 (F1 + (L - F1) / 7 * 7)) := cell_of_row w2 _ 2 _ _ _ yd
  have YR := Lib.hid yr
  have YB := Lib.hid yb
  clear hB2 yr yd yb HYR HYD HY CHK hYY d0 d1 c2d fzd
  by_cases hle : F1 + (L - F1) / 7 * 7 ≤ L
  · rw [if_pos hle]
    have HLE := Lib.hid hle
    clear hle
    go_wp2
    have hrow := heap_setCell_same _ w.heap.size 2 _ _ (.int .i64 (F1 + (L - F1) / 7 * 7)) (heap_setCell_same _ w.heap.size 1 _ _ (.int .i64 m) (heap_setCell_same w2 w.heap.size 0 _ _ (.int .i64 y) YR.out))
    refine bodyPost_ret (results_nth rfl rfl hrow) rfl ?_
    exact ⟨by rw [HRV.out, if_pos (by have := HLE.out; omega)], ((YB.out.setCell (p := ⟨w.heap.size, 0, none⟩) (by simp) _).setCell (p := ⟨w.heap.size, 1, none⟩) (by simp) _).setCell (p := ⟨w.heap.size, 2, none⟩) (by simp) _⟩
  · rw [if_neg hle]
    have HLE := Lib.hid hle
    clear hle
    go_wp2
    have hrow := heap_setCell_same _ w.heap.size 2 _ _ (.int .i64 0) (heap_setCell_same _ w.heap.size 1 _ _ (.int .i64 0) (heap_setCell_same w2 w.heap.size 0 _ _ (.int .i64 0) YR.out))
    refine bodyPost_ret (results_nth rfl rfl hrow) rfl ?_
    exact ⟨by rw [HRV.out, if_neg (by have := HLE.out; omega)], ((YB.out.setCell (p := ⟨w.heap.size, 0, none⟩) (by simp) _).setCell (p := ⟨w.heap.size, 1, none⟩) (by simp) _).setCell (p := ⟨w.heap.size, 2, none⟩) (by simp) _⟩
theorem nth_yes (y m wd n : Int) (h : NthIs y m wd n) (w : World) (hT : Tabs w) :
    Calls Tryd.prog 69 #[.int .i64 y, .int .i64 m, .int .i64 wd, .int .i64 n] w fun e w' => e = .returned (.tuple #[dateV y m (nthD y m wd n), .int .i64 0]) ∧ Below w.heap.size w w' := by
  obtain ⟨hm, ⟨h1, h2⟩, hn⟩ := h
  rcases hn with rfl | ⟨h3, h4, hle⟩
  · have hfb := nthF_bounds y m wd
    have hdg := dlen_ge (y := y) (m := m) hm.2.2.1 hm.2.2.2.1
    have hle : nthD y m wd (-1) ≤ dlen y m := by unfold nthD; rw [if_pos rfl]; omega
    have := nth_last y m wd hm h1 h2 w hT
    rw [if_pos hle] at this
    exact this
  · have hc : n = 1 ∨ n = 2 ∨ n = 3 ∨ n = 4 ∨ n = 5 := by omega
    rcases hc with rfl | rfl | rfl | rfl | rfl
    · have := nth_1 y m wd hm h1 h2 w hT
      rw [if_pos hle] at this; exact this
    · have := nth_2 y m wd hm h1 h2 w hT
      rw [if_pos hle] at this; exact this
    · have := nth_3 y m wd hm h1 h2 w hT
      rw [if_pos hle] at this; exact this
    · have := nth_4 y m wd hm h1 h2 w hT
      rw [if_pos hle] at this; exact this
    · have := nth_5 y m wd hm h1 h2 w hT
      rw [if_pos hle] at this; exact this
theorem nth_no (y m wd n : Int) (h : ¬ NthIs y m wd n) (w : World) (hT : Tabs w) :
    Calls Tryd.prog 69 #[.int .i64 y, .int .i64 m, .int .i64 wd, .int .i64 n] w fun e w' => e = .returned (.tuple #[dateV 0 0 0, .int .i64 60]) ∧ Below w.heap.size w w' := by
  by_cases c : May y m 1 ∧ 1 ≤ wd ∧ wd ≤ 7
  · obtain ⟨hm, h1, h2⟩ := c
    by_cases hn : n = -1 ∨ (1 ≤ n ∧ n ≤ 5)
    · rcases hn with rfl | ⟨h3, h4⟩
      · exact absurd ⟨hm, ⟨h1, h2⟩, .inl rfl⟩ h
      · have hle : ¬ nthD y m wd n ≤ dlen y m := fun hc => h ⟨hm, ⟨h1, h2⟩, .inr ⟨h3, h4, hc⟩⟩
        have hc : n = 1 ∨ n = 2 ∨ n = 3 ∨ n = 4 ∨ n = 5 := by omega
        rcases hc with rfl | rfl | rfl | rfl | rfl
        · have := nth_1 y m wd hm h1 h2 w hT
          rw [if_neg hle] at this; exact this
        · have := nth_2 y m wd hm h1 h2 w hT
          rw [if_neg hle] at this; exact this
        · have := nth_3 y m wd hm h1 h2 w hT
          rw [if_neg hle] at this; exact this
        · have := nth_4 y m wd hm h1 h2 w hT
          rw [if_neg hle] at this; exact this
        · have := nth_5 y m wd hm h1 h2 w hT
          rw [if_neg hle] at this; exact this
    · exact nth_def y m wd n hn hm h1 h2 w hT
  · exact nth_bad y m wd n c w hT
end Go.Proofs.YtgedcfgmfhlkdaaDoor
