/- The chapter's calendar, and its examples. -/
import Derived.Test.YtgedcfgmfhlkdaaDoorHKind
set_option linter.unusedVariables false
set_option linter.unusedSimpArgs false
namespace Go.Proofs.YtgedcfgmfhlkdaaDoor
open Go.RowKit Go.Shelf
def fewH : Nat → Ho
  | 0 => ⟨1, 0, 1, 1, 0, 0⟩
  | 1 => ⟨4, 0, 0, 0, 0, 1⟩
  | _ => ⟨3, 0, 5, 0, 1, -1⟩
def fewS : Nat → Se
  | 0 => ⟨1, 4, 1⟩
  | _ => ⟨2, 10, 1⟩
theorem few_cal : CalIs fewH 3 fewS 2 := by decide
theorem results_few {x y : Value} {b : Nat} {tmps : Array Value} {w : World} (h2 : tmps.getD 0 undef = .pointer (some ⟨b, 0, none⟩))
    (hb : w.heap[b]? = some (.cells #[x, y] 25 (0, 0))) : (results Tryd.f25 tmps).run Tryd.prog w = .ok (.agg #[x, y]) w := by
  have c0 : w.cell? ⟨b, 0, none⟩ = some x := cell_of_row w b 0 _ _ _ hb
  have c1 : w.cell? ⟨b, 1, none⟩ = some y := cell_of_row w b 1 _ _ _ hb
  simp only [Array.getD_eq_getD_getElem?] at h2
  simp [results, Tryd.results25, go_sem, h2, c0, c1]
set_option maxRecDepth 100000 in
theorem few_any (w : World) :
    Calls Tryd.prog 25 #[] w fun e w' => e = .returned (calV (some ⟨w.heap.size + 1, 0, none⟩) 3 3 (some ⟨w.heap.size + 2, 0, none⟩) 2 2) ∧ HosAt w'.heap.size w' (some ⟨w.heap.size + 1, 0, none⟩) 3 fewH ∧ SeasAt w'.heap.size w' (some ⟨w.heap.size + 2, 0, none⟩) 2 fewS ∧ Below w.heap.size w w' := by
  go_enter Tryd.func25, Tryd.ntmps25
  go_wp2
  have r0 : (((w.alloc (.cells #[.slice (some ⟨w.heap.size + 1, 0, none⟩) 3 3, .slice (some ⟨w.heap.size + 1 + 1, 0, none⟩) 2 2] 25)).alloc (.cells #[.int .i64 1, .int .i64 0, .int .i64 1, .int .i64 1, .int .i64 0, .int .i64 0, .int .i64 4, .int .i64 0, .int .i64 0, .int .i64 0, .int .i64 0, .int .i64 1, .int .i64 3, .int .i64 0, .int .i64 5, .int .i64 0, .int .i64 1, .int .i64 (-1)] 50)).alloc (.cells #[.int .i64 1, .int .i64 4, .int .i64 1, .int .i64 2, .int .i64 10, .int .i64 1] 52)).heap[w.heap.size]? = some (.cells #[.slice (some ⟨w.heap.size + 1, 0, none⟩) 3 3, .slice (some ⟨w.heap.size + 1 + 1, 0, none⟩) 2 2] 25) := heap_old (heap_old (heap_alloc_new w _) _) _
  have r1 : (((w.alloc (.cells #[.slice (some ⟨w.heap.size + 1, 0, none⟩) 3 3, .slice (some ⟨w.heap.size + 1 + 1, 0, none⟩) 2 2] 25)).alloc (.cells #[.int .i64 1, .int .i64 0, .int .i64 1, .int .i64 1, .int .i64 0, .int .i64 0, .int .i64 4, .int .i64 0, .int .i64 0, .int .i64 0, .int .i64 0, .int .i64 1, .int .i64 3, .int .i64 0, .int .i64 5, .int .i64 0, .int .i64 1, .int .i64 (-1)] 50)).alloc (.cells #[.int .i64 1, .int .i64 4, .int .i64 1, .int .i64 2, .int .i64 10, .int .i64 1] 52)).heap[w.heap.size + 1]? = some (.cells #[.int .i64 1, .int .i64 0, .int .i64 1, .int .i64 1, .int .i64 0, .int .i64 0, .int .i64 4, .int .i64 0, .int .i64 0, .int .i64 0, .int .i64 0, .int .i64 1, .int .i64 3, .int .i64 0, .int .i64 5, .int .i64 0, .int .i64 1, .int .i64 (-1)] 50) := heap_old (by have := heap_alloc_new (w.alloc (.cells #[.slice (some ⟨w.heap.size + 1, 0, none⟩) 3 3, .slice (some ⟨w.heap.size + 1 + 1, 0, none⟩) 2 2] 25)) (.cells #[.int .i64 1, .int .i64 0, .int .i64 1, .int .i64 1, .int .i64 0, .int .i64 0, .int .i64 4, .int .i64 0, .int .i64 0, .int .i64 0, .int .i64 0, .int .i64 1, .int .i64 3, .int .i64 0, .int .i64 5, .int .i64 0, .int .i64 1, .int .i64 (-1)] 50); rw [World.size_alloc] at this; exact this) _
  have r2 : (((w.alloc (.cells #[.slice (some ⟨w.heap.size + 1, 0, none⟩) 3 3, .slice (some ⟨w.heap.size + 1 + 1, 0, none⟩) 2 2] 25)).alloc (.cells #[.int .i64 1, .int .i64 0, .int .i64 1, .int .i64 1, .int .i64 0, .int .i64 0, .int .i64 4, .int .i64 0, .int .i64 0, .int .i64 0, .int .i64 0, .int .i64 1, .int .i64 3, .int .i64 0, .int .i64 5, .int .i64 0, .int .i64 1, .int .i64 (-1)] 50)).alloc (.cells #[.int .i64 1, .int .i64 4, .int .i64 1, .int .i64 2, .int .i64 10, .int .i64 1] 52)).heap[w.heap.size + 1 + 1]? = some (.cells #[.int .i64 1, .int .i64 4, .int .i64 1, .int .i64 2, .int .i64 10, .int .i64 1] 52) := by have := heap_alloc_new ((w.alloc (.cells #[.slice (some ⟨w.heap.size + 1, 0, none⟩) 3 3, .slice (some ⟨w.heap.size + 1 + 1, 0, none⟩) 2 2] 25)).alloc (.cells #[.int .i64 1, .int .i64 0, .int .i64 1, .int .i64 1, .int .i64 0, .int .i64 0, .int .i64 4, .int .i64 0, .int .i64 0, .int .i64 0, .int .i64 0, .int .i64 1, .int .i64 3, .int .i64 0, .int .i64 5, .int .i64 0, .int .i64 1, .int .i64 (-1)] 50)) (.cells #[.int .i64 1, .int .i64 4, .int .i64 1, .int .i64 2, .int .i64 10, .int .i64 1] 52); rw [World.size_alloc, World.size_alloc] at this; exact this
  have hb : Below w.heap.size w (((w.alloc (.cells #[.slice (some ⟨w.heap.size + 1, 0, none⟩) 3 3, .slice (some ⟨w.heap.size + 1 + 1, 0, none⟩) 2 2] 25)).alloc (.cells #[.int .i64 1, .int .i64 0, .int .i64 1, .int .i64 1, .int .i64 0, .int .i64 0, .int .i64 4, .int .i64 0, .int .i64 0, .int .i64 0, .int .i64 0, .int .i64 1, .int .i64 3, .int .i64 0, .int .i64 5, .int .i64 0, .int .i64 1, .int .i64 (-1)] 50)).alloc (.cells #[.int .i64 1, .int .i64 4, .int .i64 1, .int .i64 2, .int .i64 10, .int .i64 1] 52)) := (((Below.refl _ w).alloc (Nat.le_refl _) _).alloc (by simp) _).alloc (by simp; omega) _
  have hsz : (((w.alloc (.cells #[.slice (some ⟨w.heap.size + 1, 0, none⟩) 3 3, .slice (some ⟨w.heap.size + 1 + 1, 0, none⟩) 2 2] 25)).alloc (.cells #[.int .i64 1, .int .i64 0, .int .i64 1, .int .i64 1, .int .i64 0, .int .i64 0, .int .i64 4, .int .i64 0, .int .i64 0, .int .i64 0, .int .i64 0, .int .i64 1, .int .i64 3, .int .i64 0, .int .i64 5, .int .i64 0, .int .i64 1, .int .i64 (-1)] 50)).alloc (.cells #[.int .i64 1, .int .i64 4, .int .i64 1, .int .i64 2, .int .i64 10, .int .i64 1] 52)).heap.size = w.heap.size + 3 := by simp [World.size_alloc]
  refine bodyPost_ret (results_few rfl r0) rfl ⟨rfl, ?_, ?_, hb⟩
  · intro j hj
    refine ⟨w.heap.size + 1, 0, rfl, by rw [hsz]; omega, ?_⟩
    rcases (by omega : j = 0 ∨ j = 1 ∨ j = 2) with rfl | rfl | rfl
    · exact ⟨cell_of_row _ _ 0 _ _ _ r1, cell_of_row _ _ 1 _ _ _ r1, cell_of_row _ _ 2 _ _ _ r1, cell_of_row _ _ 3 _ _ _ r1, cell_of_row _ _ 4 _ _ _ r1, cell_of_row _ _ 5 _ _ _ r1⟩
    · exact ⟨cell_of_row _ _ 6 _ _ _ r1, cell_of_row _ _ 7 _ _ _ r1, cell_of_row _ _ 8 _ _ _ r1, cell_of_row _ _ 9 _ _ _ r1, cell_of_row _ _ 10 _ _ _ r1, cell_of_row _ _ 11 _ _ _ r1⟩
    · exact ⟨cell_of_row _ _ 12 _ _ _ r1, cell_of_row _ _ 13 _ _ _ r1, cell_of_row _ _ 14 _ _ _ r1, cell_of_row _ _ 15 _ _ _ r1, cell_of_row _ _ 16 _ _ _ r1, cell_of_row _ _ 17 _ _ _ r1⟩
  · intro j hj
    refine ⟨w.heap.size + 2, 0, rfl, by rw [hsz]; omega, ?_⟩
    rcases (by omega : j = 0 ∨ j = 1) with rfl | rfl
    · exact ⟨cell_of_row _ _ 0 _ _ _ r2, cell_of_row _ _ 1 _ _ _ r2, cell_of_row _ _ 2 _ _ _ r2⟩
    · exact ⟨cell_of_row _ _ 3 _ _ _ r2, cell_of_row _ _ 4 _ _ _ r2, cell_of_row _ _ 5 _ _ _ r2⟩
set_option maxRecDepth 100000 in
set_option maxHeartbeats 2000000 in
theorem kindF_any (n y m d : Int) (hd : IsDate n y m d) (w : World) (hT : Tabs w) :
    Calls Tryd.prog 27 #[.int .i64 y, .int .i64 m, .int .i64 d] w fun e w' => e = .returned (.int .i64 (kindB n (decide (n ∈ hds fewH y 3)))) ∧ Below w.heap.size w w' := by
  have HDAY := Lib.hid (day_is n y m d hd)
  have HD := Lib.hid hd
  have HT := Lib.hid hT
  clear hd hT
  go_enter Tryd.func27, Tryd.ntmps27
  go_wp2_with fail
  refine (HDAY.out _ HT.out).mono ?_
  rintro e w1 ⟨rfl, hB1⟩
  have HB1 := Lib.hid hB1
  clear hB1
  go_wp2_with fail
  refine (few_any _).mono ?_
  rintro e w2 ⟨rfl, hH2, hS2, hB2⟩
  have hb2 := HB1.out.trans (hB2.mono HB1.out.size)
  have HK := Lib.hid (kind_yes _ _ 3 _ _ 2 fewH fewS n few_cal y m d HD.out w2 hH2 hS2 (HT.out.next hb2) (by unfold maxLen; omega) (by unfold maxLen; omega))
  have HB2 := Lib.hid hb2
  clear hH2 hS2 hB2 hb2
  go_wp2_with fail
  refine HK.out.mono ?_
  rintro e w3 ⟨rfl, hB3⟩
  have HB3 := Lib.hid hB3
  clear hB3
  go_wp2
  go_ret
  exact ⟨rfl, HB2.out.trans (HB3.out.mono HB2.out.size)⟩
set_option maxRecDepth 100000 in
set_option maxHeartbeats 2000000 in
theorem seasonF_any (n y m d : Int) (hd : IsDate n y m d) (w : World) (hT : Tabs w) :
    Calls Tryd.prog 28 #[.int .i64 y, .int .i64 m, .int .i64 d] w fun e w' => (∃ r : Int, SeaIs fewS 2 (bgn m d) r ∧ e = .returned (.int .i64 r)) ∧ Below w.heap.size w w' := by
  have HDAY := Lib.hid (day_is n y m d hd)
  have HD := Lib.hid hd
  have HT := Lib.hid hT
  clear hd hT
  go_enter Tryd.func28, Tryd.ntmps28
  go_wp2_with fail
  refine (HDAY.out _ HT.out).mono ?_
  rintro e w1 ⟨rfl, hB1⟩
  have HB1 := Lib.hid hB1
  clear hB1
  go_wp2_with fail
  refine (few_any _).mono ?_
  rintro e w2 ⟨rfl, hH2, hS2, hB2⟩
  have hb2 := HB1.out.trans (hB2.mono HB1.out.size)
  have HK := Lib.hid (season_yes _ _ 3 _ _ 2 fewH fewS n few_cal y m d HD.out w2 hH2 hS2 (HT.out.next hb2) (by unfold maxLen; omega) (by unfold maxLen; omega))
  have HB2 := Lib.hid hb2
  clear hH2 hS2 hB2 hb2
  go_wp2_with fail
  refine HK.out.mono ?_
  rintro e w3 ⟨⟨r, hr, rfl⟩, hB3⟩
  have HR := Lib.hid hr
  clear hr
  have HB3 := Lib.hid hB3
  clear hB3
  go_wp2
  go_ret
  exact ⟨⟨r, HR.out, rfl⟩, HB2.out.trans (HB3.out.mono HB2.out.size)⟩
theorem date_fields : Tryd.prog.underlying 39 = some (.struct (Tryd.prog.fieldsOf 39)) := by kernel_rfl
theorem date_stood : Tryd.prog.stoodInHeld 39 = false := by kernel_rfl
set_option maxRecDepth 100000 in
theorem eql_date (y m d y' m' d' : Int) (w : World) : (binOp .eql 39 (dateV y m d) (dateV y' m' d')).run Tryd.prog w = .ok (.bool ((y == y') && ((m == m') && (d == d')))) w := by
  have hu := Tryd.underlying39
  have hi := Tryd.underlying3
  have c1 : Tryd.prog.cellsOf 3 = 1 := by kernel_rfl
  rw [run_eql_struct, run_equalIn_struct w 9999 _ _ _ date_fields date_stood]
  simp only [Program.fieldsOf, hu]
  rw [eqF_cons (a := y) (b := y') (by decide) (by simp [go_sem]) (by simp [go_sem]) hi, eqF_cons (a := m) (b := m') (by decide) (by simp [go_sem]) (by simp [go_sem]) hi,
    eqF_cons (a := d) (b := d') (by decide) (by simp [go_sem]) (by simp [go_sem]) hi, eqF_nil]
  try simp only []
  cases (y == y') <;> cases (m == m') <;> cases (d == d') <;> rfl
theorem k_0406 : kindB 20549 (decide (20549 ∈ hds fewH 2026 3)) = 4 := by decide +kernel
theorem k_0404 : kindB 20547 (decide (20547 ∈ hds fewH 2026 3)) = 2 := by decide +kernel
theorem k_0407 : kindB 20550 (decide (20550 ∈ hds fewH 2026 3)) = 1 := by decide +kernel
theorem d_0406 : IsDate 20549 2026 4 6 := by decide +kernel
theorem d_0404 : IsDate 20547 2026 4 4 := by decide +kernel
theorem d_0407 : IsDate 20550 2026 4 7 := by decide +kernel
theorem e_2026 : eaM 2026 = 4 ∧ eaD 2026 = 5 := by decide +kernel
end Go.Proofs.YtgedcfgmfhlkdaaDoor
