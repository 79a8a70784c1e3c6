/- The walk of the statement ZoneNames. -/
import Derived.Test.YtobnlcmamnoefaaDoorYEdgesM
import Derived.Deep.RegionHeld3
set_option linter.unusedVariables false
set_option linter.unusedSimpArgs false
namespace Go.Proofs.YtobnlcmamnoefaaDoor
open Go.RowKit Go.Shelf
theorem names_off1 : OffIs 3600 eur 1 (secOf 2026 7 1 0 0 0) ∧ offT 3600 eur 1 (secOf 2026 7 1 0 0 0) = 7200 := by decide +kernel
theorem names_off2 : OffIs 3600 eur 1 (secOf 2026 1 1 0 0 0) ∧ offT 3600 eur 1 (secOf 2026 1 1 0 0 0) = 3600 := by decide +kernel
theorem names_off3 : ¬ OffIs 3600 eur 1 (-3601) := by decide +kernel
theorem names_off4 : OffIs 3600 eur 1 (-3600) ∧ offT 3600 eur 1 (-3600) = 3600 := by decide +kernel
theorem names_never : insts 3600 eur 1 (secOf 2026 3 29 2 30 0) = [] := by
  rw [insts_runI eur_is (by decide +kernel)]
  decide +kernel
theorem names_twice : insts 3600 eur 1 (secOf 2026 10 25 2 30 0) = [1792888200, 1792891800] := by
  rw [insts_runI eur_is (by decide +kernel)]
  decide +kernel
theorem names_rule : ruleR eur 1 1995 = noRl ∧ ruleB eur 1 1995 = false := ruleR_none (by decide +kernel)
def eur0 (_ : Nat) : Rl := { eurR with x := 0 }
theorem eur0_no : ¬ ZoneIs 3600 eur0 1 := by decide +kernel
theorem far_no (R : Nat → Rl) : ¬ ZoneIs 50401 R 0 := by rintro ⟨⟨_, h⟩, _⟩; omega
theorem eur0_rules {W : World} {b : Nat} (h : W.heap[b]? = some (.cells #[.int .i64 1996, .int .i64 9999, .int .i64 3, .int .i64 7, .int .i64 (-1), .int .i64 120, .int .i64 10, .int .i64 7, .int .i64 (-1), .int .i64 120, .int .i64 0] 31 (0, 0))) :
    RulesAt W.heap.size W (some ⟨b, 0, none⟩) 1 eur0 := by
  intro i hi
  obtain rfl : i = 0 := by omega
  exact ⟨b, 0, rfl, (Array.getElem?_eq_some_iff.1 h).1, cells_rule (r := eur0 0) h⟩
section
variable (b : Nat) (X : World) (hT : Tabs X) (g : X.heap[b]? = some (.cells #[.int .i64 1996, .int .i64 9999, .int .i64 3, .int .i64 7, .int .i64 (-1), .int .i64 120, .int .i64 10, .int .i64 7, .int .i64 (-1), .int .i64 120, .int .i64 3600] 31 (0, 0)))
include hT g
theorem names_inst1 : Calls Tryd.prog 20 #[zoneV 3600 (some ⟨b, 0, none⟩) 1 1, momV 2026 3 29 2 30 0] X (Insts [] X) := by
  have := instants_yes 3600 (some ⟨b, 0, none⟩) 1 1 eur 2026 3 29 2 30 0 X (eur_rules g) eur_is hT (by decide +kernel)
  rw [names_never] at this
  exact this
theorem names_inst2 : Calls Tryd.prog 20 #[zoneV 3600 (some ⟨b, 0, none⟩) 1 1, momV 2026 10 25 2 30 0] X (Insts [1792888200, 1792891800] X) := by
  have := instants_yes 3600 (some ⟨b, 0, none⟩) 1 1 eur 2026 10 25 2 30 0 X (eur_rules g) eur_is hT (by decide +kernel)
  rw [names_twice] at this
  exact this
theorem names_offY (t n : Int) (h : OffIs 3600 eur 1 t ∧ offT 3600 eur 1 t = n) : Calls Tryd.prog 13 #[zoneV 3600 (some ⟨b, 0, none⟩) 1 1, .int .i64 t] X fun e w' => e = .returned (.tuple #[.int .i64 n, .int .i64 0]) ∧ Below X.heap.size X w' := by
  have := offsetZ_yes 3600 t (some ⟨b, 0, none⟩) 1 1 eur X (eur_rules g) eur_is hT h.1
  rw [h.2] at this
  exact this
theorem names_offN : Calls Tryd.prog 13 #[zoneV 3600 (some ⟨b, 0, none⟩) 1 1, .int .i64 (-3601)] X fun e w' => e = .returned (.tuple #[.int .i64 0, .int .i64 60]) ∧ Below X.heap.size X w' :=
  offsetZ_no 3600 (-3601) (some ⟨b, 0, none⟩) 1 1 eur X ⟨by omega, by omega⟩ (eur_rules g) eur_is hT names_off3
end
theorem names_of (b : Nat) (X : World) (g : X.heap[b]? = some (.cells #[.int .i64 1996, .int .i64 9999, .int .i64 3, .int .i64 7, .int .i64 (-1), .int .i64 120, .int .i64 10, .int .i64 7, .int .i64 (-1), .int .i64 120, .int .i64 3600] 31 (0, 0))) : Calls Tryd.prog 11 #[zoneV 3600 (some ⟨b, 0, none⟩) 1 1, .int .i64 1995] X fun e w' => e = .returned (.tuple #[rlV noRl, .bool false]) ∧ Below X.heap.size X w' := by
  have := ofZ_any 3600 (some ⟨b, 0, none⟩) 1 1 eur 1995 X (by omega) (eur_rules g)
  rw [show ofR 3600 eur 1 1995 = noRl by unfold ofR; rw [if_pos eur_is, names_rule.1], show ofB 3600 eur 1 1995 = false by unfold ofB; rw [if_pos eur_is, names_rule.2]] at this
  exact this
theorem names_check (b : Nat) (X : World) (g : X.heap[b]? = some (.cells #[.int .i64 1996, .int .i64 9999, .int .i64 3, .int .i64 7, .int .i64 (-1), .int .i64 120, .int .i64 10, .int .i64 7, .int .i64 (-1), .int .i64 120, .int .i64 0] 31 (0, 0))) : Calls Tryd.prog 10 #[zoneV 3600 (some ⟨b, 0, none⟩) 1 1] X fun e w' => e = .returned (.int .i64 70) ∧ Below X.heap.size X w' := by
  have := checkZ_any 3600 (some ⟨b, 0, none⟩) 1 1 eur0 X (by omega) (eur0_rules g)
  rw [zE_no eur0_no] at this
  exact this
theorem names_far (X : World) : Calls Tryd.prog 13 #[zoneV 50401 none 0 0, .int .i64 0] X fun e w' => e = .returned (.tuple #[.int .i64 0, .int .i64 70]) ∧ Below X.heap.size X w' :=
  offsetZ_bad 50401 0 none 0 0 eur X (by omega) (fun i hi => absurd hi (Nat.not_lt_zero _)) (far_no _)
set_option maxRecDepth 100000 in
set_option maxHeartbeats 4000000 in
theorem names_walk (w : World) (hT : Tabs w) :
    Calls Tryd.prog 5 #[] w fun e w' => e = .returned (.bool true) ∧ Below w.heap.size w w' := by
  have hb0 := Below.refl w.heap.size w
  have H1 := Lib.hid (fun X => europe_any X)
  have H2 := Lib.hid (fun X (hX : Below w.heap.size w X) (g : X.heap[w.heap.size + 1]? = some (.cells #[.int .i64 1996, .int .i64 9999, .int .i64 3, .int .i64 7, .int .i64 (-1), .int .i64 120, .int .i64 10, .int .i64 7, .int .i64 (-1), .int .i64 120, .int .i64 3600] 31 (0, 0))) => names_inst1 _ X (hT.next hX) g)
  have H3 := Lib.hid (fun X (hX : Below w.heap.size w X) (g : X.heap[w.heap.size + 1]? = some (.cells #[.int .i64 1996, .int .i64 9999, .int .i64 3, .int .i64 7, .int .i64 (-1), .int .i64 120, .int .i64 10, .int .i64 7, .int .i64 (-1), .int .i64 120, .int .i64 3600] 31 (0, 0))) => names_inst2 _ X (hT.next hX) g)
  have H4 := Lib.hid (fun X (hX : Below w.heap.size w X) (g : X.heap[w.heap.size + 1]? = some (.cells #[.int .i64 1996, .int .i64 9999, .int .i64 3, .int .i64 7, .int .i64 (-1), .int .i64 120, .int .i64 10, .int .i64 7, .int .i64 (-1), .int .i64 120, .int .i64 3600] 31 (0, 0))) => names_offY _ X (hT.next hX) g _ _ names_off1)
  have H5 := Lib.hid (fun X (hX : Below w.heap.size w X) (g : X.heap[w.heap.size + 1]? = some (.cells #[.int .i64 1996, .int .i64 9999, .int .i64 3, .int .i64 7, .int .i64 (-1), .int .i64 120, .int .i64 10, .int .i64 7, .int .i64 (-1), .int .i64 120, .int .i64 3600] 31 (0, 0))) => names_offY _ X (hT.next hX) g _ _ names_off2)
  have H6 := Lib.hid (fun X (hX : Below w.heap.size w X) (g : X.heap[w.heap.size + 1]? = some (.cells #[.int .i64 1996, .int .i64 9999, .int .i64 3, .int .i64 7, .int .i64 (-1), .int .i64 120, .int .i64 10, .int .i64 7, .int .i64 (-1), .int .i64 120, .int .i64 3600] 31 (0, 0))) => names_offN _ X (hT.next hX) g)
  have H7 := Lib.hid (fun X (hX : Below w.heap.size w X) (g : X.heap[w.heap.size + 1]? = some (.cells #[.int .i64 1996, .int .i64 9999, .int .i64 3, .int .i64 7, .int .i64 (-1), .int .i64 120, .int .i64 10, .int .i64 7, .int .i64 (-1), .int .i64 120, .int .i64 3600] 31 (0, 0))) => names_offY _ X (hT.next hX) g _ _ names_off4)
  have H8 := Lib.hid (fun X => names_far X)
  have H9 := Lib.hid (fun X (hX : Below w.heap.size w X) (g : X.heap[w.heap.size + 1]? = some (.cells #[.int .i64 1996, .int .i64 9999, .int .i64 3, .int .i64 7, .int .i64 (-1), .int .i64 120, .int .i64 10, .int .i64 7, .int .i64 (-1), .int .i64 120, .int .i64 3600] 31 (0, 0))) => names_of _ X g)
  have HT := Lib.hid hT
  have H10 := Lib.hid (fun X (hX : Below w.heap.size w X) => when_any 2026 7 1 0 0 0 (by decide +kernel) X (hT.next hX))
  have H11 := Lib.hid (fun X (hX : Below w.heap.size w X) => when_any 2026 1 1 0 0 0 (by decide +kernel) X (hT.next hX))
  obtain ⟨T1, hT1⟩ : ∃ T, T = secOf 2026 7 1 0 0 0 := ⟨_, rfl⟩
  obtain ⟨T2, hT2⟩ : ∃ T, T = secOf 2026 1 1 0 0 0 := ⟨_, rfl⟩
  rw [← hT1] at H4 H10
  rw [← hT2] at H5 H11
  clear hT1 hT2 hT
  have HB0 := Lib.hid hb0
  clear hb0
  go_enter Tryd.func5, Tryd.ntmps5
  go_wp2_with fail
  refine (H1.out _).mono ?_
  rintro e X1 ⟨rfl, g_e, hB⟩
  have hb := HB0.out.trans (hB.mono HB0.out.size)
  have hb_0 := hb.alloc hb.size (.cells #[.int .i64 3600, .slice (some ⟨w.heap.size + 1, 0, none⟩) 1 1] 24)
  have g_e := heap_old g_e (.cells #[.int .i64 3600, .slice (some ⟨w.heap.size + 1, 0, none⟩) 1 1] 24)
  have g_z := heap_alloc_new X1 (.cells #[.int .i64 3600, .slice (some ⟨w.heap.size + 1, 0, none⟩) 1 1] 24)
  have HB1 := Lib.hid hb_0
  have HG1_e := Lib.hid g_e
  have HG1_z := Lib.hid g_z
  clear hB hb hb_0 g_e g_z HB0  
  go_wp2_with fail
  refine (H2.out _ HB1.out HG1_e.out).mono ?_
  rintro e X2 ⟨ax, cx, rfl, hO, hB⟩
  have hb := HB1.out.trans (hB.mono HB1.out.size)
  have g_e := (hB.block (w.heap.size + 1) (Array.getElem?_eq_some_iff.1 HG1_e.out).1).trans HG1_e.out
  have g_z := (hB.block (X1.heap.size) (Array.getElem?_eq_some_iff.1 HG1_z.out).1).trans HG1_z.out
  have c_z_0 : X2.cell? ⟨X1.heap.size, 0, none⟩ = some (.int .i64 3600) := cell_of_row X2 _ 0 _ _ _ g_z
  have c_z_1 : X2.cell? ⟨X1.heap.size, 1, none⟩ = some (.slice (some ⟨w.heap.size + 1, 0, none⟩) 1 1) := cell_of_row X2 _ 1 _ _ _ g_z
  have lt_z : X1.heap.size < X2.heap.size := (Array.getElem?_eq_some_iff.1 g_z).1
  have HB2 := Lib.hid hb
  have HG2_e := Lib.hid g_e
  have HG2_z := Lib.hid g_z
  clear hB hb  g_e g_z HB1 HG1_e HG1_z H2 hO
  go_wp2_with fail
  refine (H3.out _ HB2.out HG2_e.out).mono ?_
  rintro e X3 ⟨ay, cy, rfl, hO, hB⟩
  have hb := HB2.out.trans (hB.mono HB2.out.size)
  have g_e := (hB.block (w.heap.size + 1) (Array.getElem?_eq_some_iff.1 HG2_e.out).1).trans HG2_e.out
  have g_z := (hB.block (X1.heap.size) (Array.getElem?_eq_some_iff.1 HG2_z.out).1).trans HG2_z.out
  clear c_z_0 c_z_1 lt_z
  have c_z_0 : X3.cell? ⟨X1.heap.size, 0, none⟩ = some (.int .i64 3600) := cell_of_row X3 _ 0 _ _ _ g_z
  have c_z_1 : X3.cell? ⟨X1.heap.size, 1, none⟩ = some (.slice (some ⟨w.heap.size + 1, 0, none⟩) 1 1) := cell_of_row X3 _ 1 _ _ _ g_z
  have lt_z : X1.heap.size < X3.heap.size := (Array.getElem?_eq_some_iff.1 g_z).1
  obtain ⟨bl, ol, rfl, hbx, f_p⟩ := at64_of_bys hO.bys 0 (by simp)
  obtain ⟨bl', ol', e', hbx', f_q⟩ := at64_of_bys hO.bys 1 (by simp)
  cases e'
  simp only [List.getD_cons_zero, List.getD_cons_succ, Nat.add_zero] at f_p f_q
  clear hbx hbx' 
  have HB3 := Lib.hid hb
  have HG3_e := Lib.hid g_e
  have HG3_z := Lib.hid g_z
  have FC3_p := Lib.hid f_p
  have FC3_q := Lib.hid f_q
  clear f_p f_q 
  clear hB hb  g_e g_z HB2 HG2_e HG2_z H3 hO
  go_wp2_with fail
  have hw1 := HB3.out.drew
  have q1 : X3.drew.cell? ⟨X1.heap.size, 0, none⟩ = some (.int .i64 3600) ∧ X3.drew.cell? ⟨X1.heap.size, 1, none⟩ = some (.slice (some ⟨w.heap.size + 1, 0, none⟩) 1 1) := ⟨c_z_0, c_z_1⟩
  have GZ := Lib.hid (show X3.drew.heap[X1.heap.size]? = _ from HG3_z.out)
  have GE := Lib.hid (show X3.drew.heap[w.heap.size + 1]? = _ from HG3_e.out)
  go_region_held3 (fun w' => w'.cell? ⟨X1.heap.size, 0, none⟩ = some (.int .i64 3600) ∧ w'.cell? ⟨X1.heap.size, 1, none⟩ = some (.slice (some ⟨w.heap.size + 1, 0, none⟩) 1 1))
    (first | (with_reducible exact q1) | (with_reducible exact q2) | (with_reducible exact q3) | go_keep)
    (first
      | (go_at_call 26; ((with_reducible refine (H10.out _ hw1).mono ?_); rintro e Xa ⟨rfl, hB1⟩; have ga := (hB1.block _ (Array.getElem?_eq_some_iff.1 GZ.out).1).trans GZ.out; have ge := (hB1.block _ (Array.getElem?_eq_some_iff.1 GE.out).1).trans GE.out; have q2 : Xa.cell? ⟨X1.heap.size, 0, none⟩ = some (.int .i64 3600) ∧ Xa.cell? ⟨X1.heap.size, 1, none⟩ = some (.slice (some ⟨w.heap.size + 1, 0, none⟩) 1 1) := ⟨cell_of_row Xa _ 0 _ _ _ ga, cell_of_row Xa _ 1 _ _ _ ga⟩; have hba := hw1.trans (hB1.mono hw1.size); have GZ2 := Lib.hid ga; have GE2 := Lib.hid ge; have HBA := Lib.hid hB1; clear ga hB1))
      | (go_at_call 13; ((with_reducible refine (H4.out _ hba ge).mono ?_); rintro e X4 ⟨rfl, hB2⟩; have gz := (hB2.block _ (Array.getElem?_eq_some_iff.1 GZ2.out).1).trans GZ2.out; have q3 : X4.cell? ⟨X1.heap.size, 0, none⟩ = some (.int .i64 3600) ∧ X4.cell? ⟨X1.heap.size, 1, none⟩ = some (.slice (some ⟨w.heap.size + 1, 0, none⟩) 1 1) := ⟨cell_of_row X4 _ 0 _ _ _ gz, cell_of_row X4 _ 1 _ _ _ gz⟩; have HBB := Lib.hid hB2; clear gz hB2)))
  have hB := (Below.refl X3.heap.size X3).drew.trans HBA.out
  have hB := hB.trans (HBB.out.mono hB.size)
  clear c_z_0 c_z_1 lt_z
  have hb := HB3.out.trans (hB.mono HB3.out.size)
  have g_e := (hB.block (w.heap.size + 1) (Array.getElem?_eq_some_iff.1 HG3_e.out).1).trans HG3_e.out
  have g_z := (hB.block (X1.heap.size) (Array.getElem?_eq_some_iff.1 HG3_z.out).1).trans HG3_z.out
  have c_z_0 : X4.cell? ⟨X1.heap.size, 0, none⟩ = some (.int .i64 3600) := cell_of_row X4 _ 0 _ _ _ g_z
  have c_z_1 : X4.cell? ⟨X1.heap.size, 1, none⟩ = some (.slice (some ⟨w.heap.size + 1, 0, none⟩) 1 1) := cell_of_row X4 _ 1 _ _ _ g_z
  have lt_z : X1.heap.size < X4.heap.size := (Array.getElem?_eq_some_iff.1 g_z).1
  have f_p := (hB.cell (p := ⟨bl, ol, none⟩) (World.block_lt_of_cell? _ _ FC3_p.out)).trans FC3_p.out
  have f_q := (hB.cell (p := ⟨bl, (ol + 1), none⟩) (World.block_lt_of_cell? _ _ FC3_q.out)).trans FC3_q.out
  have HB4 := Lib.hid hb
  have HG4_e := Lib.hid g_e
  have HG4_z := Lib.hid g_z
  have FC4_p := Lib.hid f_p
  have FC4_q := Lib.hid f_q
  clear hB hb g_e g_z f_p f_q HG3_e HG3_z FC3_p FC3_q HB3 q1 q2 q3 GZ GE GZ2 GE2 HBA HBB hw1 hba ge H10 H4
  go_wp2_with fail
  have hw1 := HB4.out.drew
  have q1 : X4.drew.cell? ⟨X1.heap.size, 0, none⟩ = some (.int .i64 3600) ∧ X4.drew.cell? ⟨X1.heap.size, 1, none⟩ = some (.slice (some ⟨w.heap.size + 1, 0, none⟩) 1 1) := ⟨c_z_0, c_z_1⟩
  have GZ := Lib.hid (show X4.drew.heap[X1.heap.size]? = _ from HG4_z.out)
  have GE := Lib.hid (show X4.drew.heap[w.heap.size + 1]? = _ from HG4_e.out)
  go_region_held3 (fun w' => w'.cell? ⟨X1.heap.size, 0, none⟩ = some (.int .i64 3600) ∧ w'.cell? ⟨X1.heap.size, 1, none⟩ = some (.slice (some ⟨w.heap.size + 1, 0, none⟩) 1 1))
    (first | (with_reducible exact q1) | (with_reducible exact q2) | (with_reducible exact q3) | go_keep)
    (first
      | (go_at_call 26; ((with_reducible refine (H11.out _ hw1).mono ?_); rintro e Xa ⟨rfl, hB1⟩; have ga := (hB1.block _ (Array.getElem?_eq_some_iff.1 GZ.out).1).trans GZ.out; have ge := (hB1.block _ (Array.getElem?_eq_some_iff.1 GE.out).1).trans GE.out; have q2 : Xa.cell? ⟨X1.heap.size, 0, none⟩ = some (.int .i64 3600) ∧ Xa.cell? ⟨X1.heap.size, 1, none⟩ = some (.slice (some ⟨w.heap.size + 1, 0, none⟩) 1 1) := ⟨cell_of_row Xa _ 0 _ _ _ ga, cell_of_row Xa _ 1 _ _ _ ga⟩; have hba := hw1.trans (hB1.mono hw1.size); have GZ2 := Lib.hid ga; have GE2 := Lib.hid ge; have HBA := Lib.hid hB1; clear ga hB1))
      | (go_at_call 13; ((with_reducible refine (H5.out _ hba ge).mono ?_); rintro e X5 ⟨rfl, hB2⟩; have gz := (hB2.block _ (Array.getElem?_eq_some_iff.1 GZ2.out).1).trans GZ2.out; have q3 : X5.cell? ⟨X1.heap.size, 0, none⟩ = some (.int .i64 3600) ∧ X5.cell? ⟨X1.heap.size, 1, none⟩ = some (.slice (some ⟨w.heap.size + 1, 0, none⟩) 1 1) := ⟨cell_of_row X5 _ 0 _ _ _ gz, cell_of_row X5 _ 1 _ _ _ gz⟩; have HBB := Lib.hid hB2; clear gz hB2)))
  have hB := (Below.refl X4.heap.size X4).drew.trans HBA.out
  have hB := hB.trans (HBB.out.mono hB.size)
  clear c_z_0 c_z_1 lt_z
  have hb := HB4.out.trans (hB.mono HB4.out.size)
  have g_e := (hB.block (w.heap.size + 1) (Array.getElem?_eq_some_iff.1 HG4_e.out).1).trans HG4_e.out
  have g_z := (hB.block (X1.heap.size) (Array.getElem?_eq_some_iff.1 HG4_z.out).1).trans HG4_z.out
  have c_z_0 : X5.cell? ⟨X1.heap.size, 0, none⟩ = some (.int .i64 3600) := cell_of_row X5 _ 0 _ _ _ g_z
  have c_z_1 : X5.cell? ⟨X1.heap.size, 1, none⟩ = some (.slice (some ⟨w.heap.size + 1, 0, none⟩) 1 1) := cell_of_row X5 _ 1 _ _ _ g_z
  have lt_z : X1.heap.size < X5.heap.size := (Array.getElem?_eq_some_iff.1 g_z).1
  have f_p := (hB.cell (p := ⟨bl, ol, none⟩) (World.block_lt_of_cell? _ _ FC4_p.out)).trans FC4_p.out
  have f_q := (hB.cell (p := ⟨bl, (ol + 1), none⟩) (World.block_lt_of_cell? _ _ FC4_q.out)).trans FC4_q.out
  have HB5 := Lib.hid hb
  have HG5_e := Lib.hid g_e
  have HG5_z := Lib.hid g_z
  have FC5_p := Lib.hid f_p
  have FC5_q := Lib.hid f_q
  clear hB hb g_e g_z f_p f_q HG4_e HG4_z FC4_p FC4_q HB4 q1 q2 q3 GZ GE GZ2 GE2 HBA HBB hw1 hba ge H11 H5
  go_wp2_with fail
  refine (H6.out _ HB5.out HG5_e.out).mono ?_
  rintro e X6 ⟨rfl, hB⟩
  have hb := HB5.out.trans (hB.mono HB5.out.size)
  have g_e := (hB.block (w.heap.size + 1) (Array.getElem?_eq_some_iff.1 HG5_e.out).1).trans HG5_e.out
  have g_z := (hB.block (X1.heap.size) (Array.getElem?_eq_some_iff.1 HG5_z.out).1).trans HG5_z.out
  clear c_z_0 c_z_1 lt_z
  have c_z_0 : X6.cell? ⟨X1.heap.size, 0, none⟩ = some (.int .i64 3600) := cell_of_row X6 _ 0 _ _ _ g_z
  have c_z_1 : X6.cell? ⟨X1.heap.size, 1, none⟩ = some (.slice (some ⟨w.heap.size + 1, 0, none⟩) 1 1) := cell_of_row X6 _ 1 _ _ _ g_z
  have lt_z : X1.heap.size < X6.heap.size := (Array.getElem?_eq_some_iff.1 g_z).1
  have f_p := (hB.cell (p := ⟨bl, ol, none⟩) (World.block_lt_of_cell? _ _ FC5_p.out)).trans FC5_p.out
  have f_q := (hB.cell (p := ⟨bl, (ol + 1), none⟩) (World.block_lt_of_cell? _ _ FC5_q.out)).trans FC5_q.out
  have HB6 := Lib.hid hb
  have HG6_e := Lib.hid g_e
  have HG6_z := Lib.hid g_z
  have FC6_p := Lib.hid f_p
  have FC6_q := Lib.hid f_q
  clear f_p f_q FC5_p FC5_q
  clear hB hb  g_e g_z HB5 HG5_e HG5_z H6
  go_wp2_with fail
  refine (H7.out _ HB6.out HG6_e.out).mono ?_
  rintro e X7 ⟨rfl, hB⟩
  have hb := HB6.out.trans (hB.mono HB6.out.size)
  have g_e := (hB.block (w.heap.size + 1) (Array.getElem?_eq_some_iff.1 HG6_e.out).1).trans HG6_e.out
  have g_z := (hB.block (X1.heap.size) (Array.getElem?_eq_some_iff.1 HG6_z.out).1).trans HG6_z.out
  clear c_z_0 c_z_1 lt_z
  have c_z_0 : X7.cell? ⟨X1.heap.size, 0, none⟩ = some (.int .i64 3600) := cell_of_row X7 _ 0 _ _ _ g_z
  have c_z_1 : X7.cell? ⟨X1.heap.size, 1, none⟩ = some (.slice (some ⟨w.heap.size + 1, 0, none⟩) 1 1) := cell_of_row X7 _ 1 _ _ _ g_z
  have lt_z : X1.heap.size < X7.heap.size := (Array.getElem?_eq_some_iff.1 g_z).1
  have f_p := (hB.cell (p := ⟨bl, ol, none⟩) (World.block_lt_of_cell? _ _ FC6_p.out)).trans FC6_p.out
  have f_q := (hB.cell (p := ⟨bl, (ol + 1), none⟩) (World.block_lt_of_cell? _ _ FC6_q.out)).trans FC6_q.out
  have HB7 := Lib.hid hb
  have HG7_e := Lib.hid g_e
  have HG7_z := Lib.hid g_z
  have FC7_p := Lib.hid f_p
  have FC7_q := Lib.hid f_q
  clear f_p f_q FC6_p FC6_q
  clear hB hb  g_e g_z HB6 HG6_e HG6_z H7
  go_wp2_with fail
  refine (H8.out _).mono ?_
  rintro e X8 ⟨rfl, hB⟩
  have hb := HB7.out.trans (hB.mono HB7.out.size)
  have g_e := (hB.block (w.heap.size + 1) (Array.getElem?_eq_some_iff.1 HG7_e.out).1).trans HG7_e.out
  have g_z := (hB.block (X1.heap.size) (Array.getElem?_eq_some_iff.1 HG7_z.out).1).trans HG7_z.out
  clear c_z_0 c_z_1 lt_z
  have c_z_0 : X8.cell? ⟨X1.heap.size, 0, none⟩ = some (.int .i64 3600) := cell_of_row X8 _ 0 _ _ _ g_z
  have c_z_1 : X8.cell? ⟨X1.heap.size, 1, none⟩ = some (.slice (some ⟨w.heap.size + 1, 0, none⟩) 1 1) := cell_of_row X8 _ 1 _ _ _ g_z
  have lt_z : X1.heap.size < X8.heap.size := (Array.getElem?_eq_some_iff.1 g_z).1
  have f_p := (hB.cell (p := ⟨bl, ol, none⟩) (World.block_lt_of_cell? _ _ FC7_p.out)).trans FC7_p.out
  have f_q := (hB.cell (p := ⟨bl, (ol + 1), none⟩) (World.block_lt_of_cell? _ _ FC7_q.out)).trans FC7_q.out
  have HB8 := Lib.hid hb
  have HG8_e := Lib.hid g_e
  have HG8_z := Lib.hid g_z
  have FC8_p := Lib.hid f_p
  have FC8_q := Lib.hid f_q
  clear f_p f_q FC7_p FC7_q
  clear hB hb  g_e g_z HB7 HG7_e HG7_z H8
  go_wp2_with fail
  refine (H9.out _ HB8.out HG8_e.out).mono ?_
  rintro e X9 ⟨rfl, hB⟩
  have hb := HB8.out.trans (hB.mono HB8.out.size)
  have g_e := (hB.block (w.heap.size + 1) (Array.getElem?_eq_some_iff.1 HG8_e.out).1).trans HG8_e.out
  have g_z := (hB.block (X1.heap.size) (Array.getElem?_eq_some_iff.1 HG8_z.out).1).trans HG8_z.out
  clear c_z_0 c_z_1 lt_z
  have f_p := (hB.cell (p := ⟨bl, ol, none⟩) (World.block_lt_of_cell? _ _ FC8_p.out)).trans FC8_p.out
  have f_q := (hB.cell (p := ⟨bl, (ol + 1), none⟩) (World.block_lt_of_cell? _ _ FC8_q.out)).trans FC8_q.out
  have hb_0 := hb.alloc hb.size (.cells #[.int .i64 0, .int .i64 0, .int .i64 0, .int .i64 0, .int .i64 0, .int .i64 0, .int .i64 0, .int .i64 0, .int .i64 0, .int .i64 0, .int .i64 0] 31)
  have g_e := heap_old g_e (.cells #[.int .i64 0, .int .i64 0, .int .i64 0, .int .i64 0, .int .i64 0, .int .i64 0, .int .i64 0, .int .i64 0, .int .i64 0, .int .i64 0, .int .i64 0] 31)
  have g_z := heap_old g_z (.cells #[.int .i64 0, .int .i64 0, .int .i64 0, .int .i64 0, .int .i64 0, .int .i64 0, .int .i64 0, .int .i64 0, .int .i64 0, .int .i64 0, .int .i64 0] 31)
  have f_p := (((Below.refl (X9).heap.size (X9)).alloc (Nat.le_refl _) (.cells #[.int .i64 0, .int .i64 0, .int .i64 0, .int .i64 0, .int .i64 0, .int .i64 0, .int .i64 0, .int .i64 0, .int .i64 0, .int .i64 0, .int .i64 0] 31)).cell (p := ⟨bl, ol, none⟩) (World.block_lt_of_cell? _ _ f_p)).trans f_p
  have f_q := (((Below.refl (X9).heap.size (X9)).alloc (Nat.le_refl _) (.cells #[.int .i64 0, .int .i64 0, .int .i64 0, .int .i64 0, .int .i64 0, .int .i64 0, .int .i64 0, .int .i64 0, .int .i64 0, .int .i64 0, .int .i64 0] 31)).cell (p := ⟨bl, (ol + 1), none⟩) (World.block_lt_of_cell? _ _ f_q)).trans f_q
  have g_r := heap_alloc_new X9 (.cells #[.int .i64 0, .int .i64 0, .int .i64 0, .int .i64 0, .int .i64 0, .int .i64 0, .int .i64 0, .int .i64 0, .int .i64 0, .int .i64 0, .int .i64 0] 31)
  have HB9 := Lib.hid hb_0
  have HG9_e := Lib.hid g_e
  have HG9_z := Lib.hid g_z
  have HG9_r := Lib.hid g_r
  have FC9_p := Lib.hid f_p
  have FC9_q := Lib.hid f_q
  clear f_p f_q FC8_p FC8_q
  clear hB hb hb_0 g_e g_z g_r HB8 HG8_e HG8_z H9
  clear HG9_r
  clear HG9_z
  clear HG9_e
  go_wp2_with fail
  refine (H1.out _).mono ?_
  rintro e X10 ⟨rfl, g_e2, hB⟩
  have hb := HB9.out.trans (hB.mono HB9.out.size)
  have f_p := (hB.cell (p := ⟨bl, ol, none⟩) (World.block_lt_of_cell? _ _ FC9_p.out)).trans FC9_p.out
  have f_q := (hB.cell (p := ⟨bl, (ol + 1), none⟩) (World.block_lt_of_cell? _ _ FC9_q.out)).trans FC9_q.out
  simp only [World.size_alloc] at g_e2
  have hbl9 := World.block_lt_of_cell? _ _ FC9_p.out
  rw [World.size_alloc] at hbl9
  have hw9 := HB9.out.size
  rw [World.size_alloc] at hw9
  have HE2 := Lib.hid (Array.getElem?_eq_some_iff.1 g_e2).1
  have hz9 := hB.size
  rw [World.size_alloc] at hz9
  have hb_0 := hb.alloc hb.size (.cells #[.int .i64 3600, .slice (some ⟨X9.heap.size + 1 + 1, 0, none⟩) 1 1] 24)
  have g_e2 := heap_old g_e2 (.cells #[.int .i64 3600, .slice (some ⟨X9.heap.size + 1 + 1, 0, none⟩) 1 1] 24)
  have f_p := (((Below.refl (X10).heap.size (X10)).alloc (Nat.le_refl _) (.cells #[.int .i64 3600, .slice (some ⟨X9.heap.size + 1 + 1, 0, none⟩) 1 1] 24)).cell (p := ⟨bl, ol, none⟩) (World.block_lt_of_cell? _ _ f_p)).trans f_p
  have f_q := (((Below.refl (X10).heap.size (X10)).alloc (Nat.le_refl _) (.cells #[.int .i64 3600, .slice (some ⟨X9.heap.size + 1 + 1, 0, none⟩) 1 1] 24)).cell (p := ⟨bl, (ol + 1), none⟩) (World.block_lt_of_cell? _ _ f_q)).trans f_q
  have g_z2 := heap_alloc_new X10 (.cells #[.int .i64 3600, .slice (some ⟨X9.heap.size + 1 + 1, 0, none⟩) 1 1] 24)
  have HB10 := Lib.hid hb_0
  have HG10_e2 := Lib.hid g_e2
  have HG10_z2 := Lib.hid g_z2
  have FC10_p := Lib.hid f_p
  have FC10_q := Lib.hid f_q
  clear f_p f_q FC9_p FC9_q
  clear hB hb hb_0 g_e2 g_z2 HB9  H1
  have k10 : (X10.alloc (.cells #[.int .i64 3600, .slice (some ⟨X9.heap.size + 1 + 1, 0, none⟩) 1 1] 24)).cell? ⟨X9.heap.size + 1 + 1, 10, none⟩ = some (.int .i64 3600) := cell_of_row _ _ 10 _ _ _ HG10_e2.out
  have f10 := frozen_of_row (X10.alloc (.cells #[.int .i64 3600, .slice (some ⟨X9.heap.size + 1 + 1, 0, none⟩) 1 1] 24)) (X9.heap.size + 1 + 1) 10 _ _ HG10_e2.out
  have ltE : X9.heap.size + 1 + 1 < X10.heap.size + 1 := by have := (Array.getElem?_eq_some_iff.1 HG10_e2.out).1; rw [World.size_alloc] at this; exact this
  go_wp2_with fail
  obtain ⟨Y0, hY0⟩ : ∃ Y0, Y0 = (X10.alloc (.cells #[.int .i64 3600, .slice (some ⟨X9.heap.size + 1 + 1, 0, none⟩) 1 1] 24)).setCell ⟨X9.heap.size + 1 + 1, 10, none⟩ (.int .i64 0) := ⟨_, rfl⟩
  rw [← hY0]
  have hBY : Below w.heap.size w Y0 := by rw [hY0]; exact HB10.out.setCell (p := ⟨X9.heap.size + 1 + 1, 10, none⟩) (show w.heap.size ≤ X9.heap.size + 1 + 1 by omega) _
  have hge : Y0.heap[X9.heap.size + 1 + 1]? = some (.cells #[.int .i64 1996, .int .i64 9999, .int .i64 3, .int .i64 7, .int .i64 (-1), .int .i64 120, .int .i64 10, .int .i64 7, .int .i64 (-1), .int .i64 120, .int .i64 0] 31 (0, 0)) := by rw [hY0]; exact heap_setCell_same _ (X9.heap.size + 1 + 1) 10 _ _ _ HG10_e2.out
  have hgz : Y0.heap[X10.heap.size]? = some (.cells #[.int .i64 3600, .slice (some ⟨X9.heap.size + 1 + 1, 0, none⟩) 1 1] 24 (0, 0)) := by
    rw [hY0]
    exact (heap_setCell_other _ ⟨X9.heap.size + 1 + 1, 10, none⟩ X10.heap.size _ (by intro q; have q' : X10.heap.size = X9.heap.size + 1 + 1 := (by first | exact q | exact q.symm); have q2 := HE2.out; omega)).trans HG10_z2.out
  have hlow : Below (X9.heap.size + 1 + 1) (X10.alloc (.cells #[.int .i64 3600, .slice (some ⟨X9.heap.size + 1 + 1, 0, none⟩) 1 1] 24)) Y0 := by rw [hY0]; exact (Below.refl (X9.heap.size + 1 + 1) _).setCell (p := ⟨X9.heap.size + 1 + 1, 10, none⟩) (Nat.le_refl _) _
  have hpp := (hlow.cell (p := ⟨bl, ol, none⟩) (show bl < X9.heap.size + 1 + 1 by omega)).trans FC10_p.out
  have hqq := (hlow.cell (p := ⟨bl, ol + 1, none⟩) (show bl < X9.heap.size + 1 + 1 by omega)).trans FC10_q.out
  have hlb : bl < Y0.heap.size := World.block_lt_of_cell? _ _ hpp
  have hT0 := HT.out.next hBY
  have GE := Lib.hid (show Y0.drew.heap[X9.heap.size + 1 + 1]? = _ from hge)
  have GZ := Lib.hid (show Y0.drew.heap[X10.heap.size]? = _ from hgz)
  have q1 : Y0.drew.cell? ⟨bl, ol, none⟩ = some (.int .i64 1792888200) ∧ Y0.drew.cell? ⟨bl, ol + 1, none⟩ = some (.int .i64 1792891800) ∧ Y0.drew.cell? ⟨X10.heap.size, 0, none⟩ = some (.int .i64 3600) ∧ Y0.drew.cell? ⟨X10.heap.size, 1, none⟩ = some (.slice (some ⟨X9.heap.size + 1 + 1, 0, none⟩) 1 1) := ⟨hpp, hqq, cell_of_row Y0 _ 0 _ _ _ hgz, cell_of_row Y0 _ 1 _ _ _ hgz⟩
  have HA := Lib.hid (alive_any Y0.drew hT0.drew)
  have HBY := Lib.hid hBY
  have HQ1 := Lib.hid q1
  clear hBY hge hgz hlow hpp hqq hY0 k10 f10 hT0 HB10 HG10_e2 HG10_z2 FC10_p FC10_q
  simp only [List.append_eq, List.cons_append, List.nil_append]
  go_region_held3 (fun w' => w'.cell? ⟨bl, ol, none⟩ = some (.int .i64 1792888200) ∧ w'.cell? ⟨bl, ol + 1, none⟩ = some (.int .i64 1792891800) ∧ w'.cell? ⟨X10.heap.size, 0, none⟩ = some (.int .i64 3600) ∧ w'.cell? ⟨X10.heap.size, 1, none⟩ = some (.slice (some ⟨X9.heap.size + 1 + 1, 0, none⟩) 1 1))
    (first | (with_reducible exact q1) | (with_reducible exact q2) | (with_reducible exact q3) | go_keep)
    (first
      | (go_at_call 27; ((with_reducible refine HA.out.mono ?_); rintro e Xa ⟨rfl, hB1⟩; have gz := (hB1.block _ (Array.getElem?_eq_some_iff.1 GZ.out).1).trans GZ.out; have ge := (hB1.block _ (Array.getElem?_eq_some_iff.1 GE.out).1).trans GE.out; have q2 : Xa.cell? ⟨bl, ol, none⟩ = some (.int .i64 1792888200) ∧ Xa.cell? ⟨bl, ol + 1, none⟩ = some (.int .i64 1792891800) ∧ Xa.cell? ⟨X10.heap.size, 0, none⟩ = some (.int .i64 3600) ∧ Xa.cell? ⟨X10.heap.size, 1, none⟩ = some (.slice (some ⟨X9.heap.size + 1 + 1, 0, none⟩) 1 1) := ⟨(hB1.cell (p := ⟨bl, ol, none⟩) hlb).trans HQ1.out.1, (hB1.cell (p := ⟨bl, ol + 1, none⟩) hlb).trans HQ1.out.2.1, cell_of_row Xa _ 0 _ _ _ gz, cell_of_row Xa _ 1 _ _ _ gz⟩; have hlb2 := Nat.lt_of_lt_of_le hlb hB1.size; have GZ2 := Lib.hid gz; have HC := Lib.hid (names_check _ Xa ge); have HQ2 := Lib.hid q2; have HBA := Lib.hid hB1; clear gz ge hB1))
      | (go_at_call 10; ((with_reducible refine HC.out.mono ?_); rintro e Xb ⟨rfl, hB2⟩; have gz := (hB2.block _ (Array.getElem?_eq_some_iff.1 GZ2.out).1).trans GZ2.out; have q3 : Xb.cell? ⟨bl, ol, none⟩ = some (.int .i64 1792888200) ∧ Xb.cell? ⟨bl, ol + 1, none⟩ = some (.int .i64 1792891800) ∧ Xb.cell? ⟨X10.heap.size, 0, none⟩ = some (.int .i64 3600) ∧ Xb.cell? ⟨X10.heap.size, 1, none⟩ = some (.slice (some ⟨X9.heap.size + 1 + 1, 0, none⟩) 1 1) := ⟨(hB2.cell (p := ⟨bl, ol, none⟩) hlb2).trans HQ2.out.1, (hB2.cell (p := ⟨bl, ol + 1, none⟩) hlb2).trans HQ2.out.2.1, cell_of_row Xb _ 0 _ _ _ gz, cell_of_row Xb _ 1 _ _ _ gz⟩; have HBB := Lib.hid hB2; clear gz hB2)))
  have hba := HBY.out.drew.trans (HBA.out.mono HBY.out.size)
  have hbb := hba.trans (HBB.out.mono hba.size)
  go_wp2
  go_ret
  exact ⟨rfl, hbb⟩
theorem zoneNames_any (w : World) (hT : Tabs w) : Calls Tryd.prog 5 #[] w fun e w' => e = .returned (.bool true) ∧ Below w.heap.size w w' := names_walk w hT
end Go.Proofs.YtobnlcmamnoefaaDoor
