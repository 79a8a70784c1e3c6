/- The statement DaysEaster, walked. -/
import Derived.Test.YtgedcfgmfhlkdaaDoorHAlive
set_option linter.unusedVariables false
set_option linter.unusedSimpArgs false
namespace Go.Proofs.YtgedcfgmfhlkdaaDoor
open Go.RowKit Go.Shelf
set_option maxRecDepth 100000 in
set_option maxHeartbeats 2000000 in
theorem easterW_no (y : Int) (h : ¬ (1970 ≤ y ∧ y ≤ 9999)) (w : World) (hT : Tabs w) :
    Calls Tryd.prog 6 #[.int .i64 y] w fun e w' => e = .returned (.bool true) ∧ Below w.heap.size w w' := by
  have HA := Lib.hid (aliveD_any w hT)
  have HE := Lib.hid (easter_no y h)
  have hor : y < 1970 ∨ (¬ y < 1970 ∧ 9999 < y) := by omega
  clear hT h
  rcases hor with h1 | ⟨h1, h2⟩
  all_goals
    go_enter Tryd.func6, Tryd.ntmps6
    go_wp2_with (first
      | (go_at_call 26; refine HA.out.mono ?_; rintro e w1 ⟨rfl, hB1⟩; have HB1 := Lib.hid hB1; clear hB1)
      | (go_at_call 20; refine (HE.out _).mono ?_; rintro e w2 ⟨rfl, hB2⟩; have HB2 := Lib.hid (HB1.out.trans (hB2.mono HB1.out.size)); clear hB2))
    go_ret
    exact ⟨rfl, HB2.out.alloc HB2.out.size _⟩
set_option maxRecDepth 100000 in
set_option maxHeartbeats 2000000 in
theorem easterW_yes (y : Int) (h0 : 1970 ≤ y) (h1 : y ≤ 9999) (w : World) (hT : Tabs w) :
    Calls Tryd.prog 6 #[.int .i64 y] w fun e w' => e = .returned (.bool true) ∧ Below w.heap.size w w' := by
  have HA := Lib.hid (aliveD_any w hT)
  have HE := Lib.hid (easter_yes y h0 h1)
  have hm := ea_may h0 h1
  have hin := ea_in h0 h1
  have hx := day_bounds hm
  have hk : wkB (eaDay y) = 7 := by rw [wkB_in (show 0 ≤ eaDay y from hx.1) (show eaDay y ≤ 2932896 from hx.2)]; exact hin.2
  have hd : IsDate (eaDay y) y (eaM y) (eaD y) := ⟨hm, rfl⟩
  obtain ⟨N, hN⟩ : ∃ N, N = eaDay y := ⟨_, rfl⟩
  obtain ⟨em, hem⟩ : ∃ N, N = eaM y := ⟨_, rfl⟩
  obtain ⟨ed, hed⟩ : ∃ N, N = eaD y := ⟨_, rfl⟩
  have hor := hin.1
  rw [← hem, ← hed] at hor hd HE
  rw [← hN] at hk hd
  have HD := Lib.hid (day_is N y em ed hd)
  have HT := Lib.hid hT
  have HK := Lib.hid hk
  have hwk : ∀ W, Calls Tryd.prog 30 #[.int .i64 N] W fun e w' => e = .returned (.int .i64 7) ∧ W = w' := fun W => by have := weekday_any N W; rw [hk] at this; exact this
  have HW := Lib.hid hwk
  clear hT hm hin hx hk hd hN hem hed hwk
  rcases hor with ⟨rfl, g1, g2⟩ | ⟨rfl, g1, g2⟩
  all_goals
    go_enter Tryd.func6, Tryd.ntmps6
    go_wp2_with fail
    refine HA.out.mono ?_
    rintro e w1 ⟨rfl, hB1⟩
    have HB1 := Lib.hid hB1
    clear hB1
    go_wp2_with fail
    refine (HE.out _).mono ?_
    rintro e w2 ⟨rfl, hB2⟩
    have HB2 := Lib.hid (HB1.out.trans (hB2.mono HB1.out.size))
    clear hB2
    go_wp2_with fail
    refine (HD.out _ (HT.out.next (HB2.out.alloc HB2.out.size _))).mono ?_
    rintro e w3 ⟨rfl, hB3⟩
    have hr := (hB3.block w2.heap.size (by simp)).trans (heap_alloc_new w2 _)
    have c0 : w3.cell? ⟨w2.heap.size, 0, none⟩ = some (.int .i64 y) := cell_of_row _ _ 0 _ _ _ hr
    have c1 := cell_of_row w3 w2.heap.size 1 _ _ _ hr
    have c2 : w3.cell? ⟨w2.heap.size, 2, none⟩ = some (.int .i64 ed) := cell_of_row _ _ 2 _ _ _ hr
    simp at c1
    have HB3 := Lib.hid ((HB2.out.alloc HB2.out.size _).trans (hB3.mono (HB2.out.alloc HB2.out.size _).size))
    clear hB3 hr
    go_wp2_with (go_at_call 30; refine (HW.out _).mono ?_; rintro e w4 ⟨rfl, rfl⟩)
    go_ret
    exact ⟨rfl, HB3.out⟩
theorem walk_easter (y : Int) (w : World) (hT : Tabs w) (_h : (Lit.int .i64 y).wf = true) :
    Calls Tryd.prog 6 #[.int .i64 y] w fun e w' => e = .returned (.bool true) ∧ Below w.heap.size w w' := by
  by_cases h : 1970 ≤ y ∧ y ≤ 9999
  · exact easterW_yes y h.1 h.2 w hT
  · exact easterW_no y h w hT
end Go.Proofs.YtgedcfgmfhlkdaaDoor
