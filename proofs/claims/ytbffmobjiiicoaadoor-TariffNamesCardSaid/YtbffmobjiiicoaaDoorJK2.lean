/- Joined: KNext KOpen KTime KRef KRef2 KDays KNth KRNth. -/
import Derived.Test.YtbffmobjiiicoaaDoorJK1
import Derived.Deep.QuietTactic
import Derived.OpenShut
import Derived.ChangeArms
import Derived.WideShapes
import Derived.ShutString
import Derived.ChangeOld
import Derived.Stop.Joined
import Derived.Deep.Strs
import Derived.Lib.SmallJoins
import Derived.StillTailTactics
section
/- The walk of the statement CivilNext; the example that is alive. -/
set_option linter.unusedVariables false
set_option linter.unusedSimpArgs false
namespace Go.Proofs.YtbffmobjiiicoaaDoor
open Go.RowKit Go.Shelf
theorem wkB_in {n : Int} (h0 : 0 ≤ n) (h1 : n ≤ 2932896) : wkB n = wkday n := by unfold wkB; rw [if_pos ⟨h0, h1⟩]
/-- A day's date, told. -/
theorem of_is (n y m d : Int) (h : IsDate n y m d) (w : World) (hT : Tabs w) :
    Calls Tryd.prog 72 #[.int .i64 n] w fun e w' => e = .returned (.tuple #[dateV y m d, .int .i64 0]) ∧ Below w.heap.size w w' := by
  have hb := day_bounds h.1
  rw [← h.2] at hb
  refine (of_yes n w hT hb.1 hb.2).mono ?_
  rintro e w' ⟨⟨y', m', d', h', rfl⟩, hB⟩
  obtain ⟨rfl, rfl, rfl⟩ := h.unique h'
  exact ⟨rfl, hB⟩
theorem day_is (n y m d : Int) (h : IsDate n y m d) (w : World) (hT : Tabs w) :
    Calls Tryd.prog 47 #[dateV y m d] w fun e w' => e = .returned (.tuple #[.int .i64 n, .int .i64 0]) ∧ Below w.heap.size w w' := by
  rw [h.2]; exact day_yes y m d w hT h.1
theorem wk_next (n : Int) : wkday n % 7 + 1 = wkday (n + 1) := by unfold wkday; omega
theorem wk_week (n : Int) : wkday (n + 7) = wkday n := by unfold wkday; omega
end Go.Proofs.YtbffmobjiiicoaaDoor
end
section
/- Dates and moments that came in. -/
namespace Go.Proofs.YtbffmobjiiicoaaDoor
open Go.ChangeShapes Go.WideShapes Go.RowKit
def In64 (n : Int) : Prop := -9223372036854775808 ≤ n ∧ n ≤ 9223372036854775807
theorem in64_of {n : Int} (h : (Lit.int .i64 n).wf = true) : In64 n := by
  simp [Lit.wf, IntKind.min, IntKind.max, IntKind.bits, IntKind.signed] at h; exact h
theorem int_cell {H : Type} {enc : TypeId × Value → H} {W : World} {base : Nat} {sp : Nat → Bool} {held : Bool} {fuel : Nat} {c : Value} {x : DataW H × List MemPlace}
    (h : DataW.trod enc Tryd.prog W base sp held fuel 3 [c] = some x) : ∃ n : Int, c = .int .i64 n ∧ In64 n := by
  obtain ⟨n, e, _, hw⟩ := DataW.trod_int Tryd.underlying3 h
  exact ⟨n, by simpa using e, in64_of hw⟩
theorem cells6 {cs : Array Value} (h : cs.size = 6) : ∃ a b c d e f, cs = #[a, b, c, d, e, f] := by
  obtain ⟨l⟩ := cs
  match l, h with
  | [a, b, c, d, e, f], _ => exact ⟨a, b, c, d, e, f, rfl⟩
theorem cells3 {cs : Array Value} (h : cs.size = 3) : ∃ a b c, cs = #[a, b, c] := by
  obtain ⟨l⟩ := cs
  match l, h with
  | [a, b, c], _ => exact ⟨a, b, c, rfl⟩
set_option maxRecDepth 100000 in
theorem date_cells {H : Type} {enc : TypeId × Value → H} {W : World} {base : Nat} {sp : Nat → Bool} {held : Bool} {fuel : Nat} {a b c : Value} {x : DataW H × List MemPlace}
    (h : DataW.trod enc Tryd.prog W base sp held fuel 110 [a, b, c] = some x) : ∃ y m d : Int, a = .int .i64 y ∧ b = .int .i64 m ∧ c = .int .i64 d ∧ In64 y ∧ In64 m ∧ In64 d := by
  have k1 : Tryd.prog.cellsOf 3 = 1 := by kernel_rfl
  obtain ⟨y0, y1, y2, n, _, _, h0, h1, h2⟩ := Go.Deep.trod_struct3 Tryd.underlying110 h
  simp only [k1, List.drop, List.take] at h0 h1 h2
  obtain ⟨y, rfl, hy⟩ := int_cell h0
  obtain ⟨m, rfl, hm⟩ := int_cell h1
  obtain ⟨d, rfl, hd⟩ := int_cell h2
  exact ⟨y, m, d, rfl, rfl, rfl, hy, hm, hd⟩
set_option maxRecDepth 100000 in
theorem open_date {H : Type} {enc : TypeId × Value → H} {W : World} {base base2 : Nat} {sp : Nat → Bool} {held : Bool} {r : Reach} {v : Value} {d : DataW H} {p : List MemPlace}
    (hv : Value.okWide Tryd.prog W r base 110 v) (h : DataW.Trod enc Tryd.prog W base2 sp held 110 v d p) : ∃ y m d : Int, v = dateV y m d ∧ (In64 y ∧ In64 m ∧ In64 d) := by
  obtain ⟨cs, rfl, hsz⟩ := okWide_struct Tryd.underlying110 hv
  obtain ⟨a, b, c, rfl⟩ := cells3 (hsz.trans (show Tryd.prog.cellsOf 110 = 3 by kernel_rfl))
  obtain ⟨fuel, hf⟩ := h
  obtain ⟨y, m, d, rfl, rfl, rfl, h⟩ := date_cells (show DataW.trod enc Tryd.prog W base2 sp held fuel 110 [a, b, c] = some _ by simpa [Value.cells] using hf)
  exact ⟨y, m, d, rfl, h⟩
abbrev momV (y m d h mi s : Int) : Value := .agg #[.int .i64 y, .int .i64 m, .int .i64 d, .int .i64 h, .int .i64 mi, .int .i64 s]
set_option maxRecDepth 100000 in
theorem open_moment {H : Type} {enc : TypeId × Value → H} {W : World} {base base2 : Nat} {sp : Nat → Bool} {held : Bool} {r : Reach} {v : Value} {d : DataW H} {p : List MemPlace}
    (hv : Value.okWide Tryd.prog W r base 112 v) (h : DataW.Trod enc Tryd.prog W base2 sp held 112 v d p) : ∃ y m d h mi s : Int, v = momV y m d h mi s ∧ (In64 y ∧ In64 m ∧ In64 d ∧ In64 h ∧ In64 mi ∧ In64 s) := by
  obtain ⟨cs, rfl, hsz⟩ := okWide_struct Tryd.underlying112 hv
  obtain ⟨a, b, c, e, f, g, rfl⟩ := cells6 (hsz.trans (show Tryd.prog.cellsOf 112 = 6 by kernel_rfl))
  obtain ⟨fuel, hf⟩ := h
  have k1 : Tryd.prog.cellsOf 3 = 1 := by kernel_rfl
  have k3 : Tryd.prog.cellsOf 110 = 3 := by kernel_rfl
  obtain ⟨y0, y1, y2, y3, n, _, _, h0, h1, h2, h3⟩ := Go.Joins.trod_struct4 Tryd.underlying112 (show DataW.trod enc Tryd.prog W base2 sp held fuel 112 [a, b, c, e, f, g] = some _ by simpa [Value.cells] using hf)
  simp only [k3, List.drop, List.take] at h0
  simp only [k1, List.drop, List.take] at h1 h2 h3
  obtain ⟨y, m, d, rfl, rfl, rfl, hy, hm, hd⟩ := date_cells h0
  obtain ⟨h', rfl, hh⟩ := int_cell h1
  obtain ⟨mi, rfl, hmi⟩ := int_cell h2
  obtain ⟨s, rfl, hs⟩ := int_cell h3
  exact ⟨y, m, d, h', mi, s, rfl, hy, hm, hd, hh, hmi, hs⟩
end Go.Proofs.YtbffmobjiiicoaaDoor
end
section
/- Contracts: hasTime, Instant, At. -/
set_option linter.unusedVariables false
set_option linter.unusedSimpArgs false
namespace Go.Proofs.YtbffmobjiiicoaaDoor
open Go.RowKit Go.Shelf
def TimeIs (h mi s : Int) : Prop := (0 ≤ h ∧ h < 24) ∧ (0 ≤ mi ∧ mi < 60) ∧ (0 ≤ s ∧ s < 60)
instance (h mi s : Int) : Decidable (TimeIs h mi s) := by unfold TimeIs; infer_instance
theorem hasTime_any (y m d h mi s : Int) (w : World) :
    Calls Tryd.prog 97 #[momV y m d h mi s] w fun e w' => e = .returned (.bool (decide (TimeIs h mi s))) ∧ Below w.heap.size w w' := by
  unfold TimeIs
  by_cases c1 : 0 ≤ h ∧ h < 24
  · by_cases c2 : 0 ≤ mi ∧ mi < 60
    · have g1 := Lib.hid (show decide (0 ≤ h ∧ h < 24) = true from decide_eq_true c1)
      have g2 := Lib.hid (show decide (0 ≤ mi ∧ mi < 60) = true from decide_eq_true c2)
      rw [show decide ((0 ≤ h ∧ h < 24) ∧ (0 ≤ mi ∧ mi < 60) ∧ 0 ≤ s ∧ s < 60) = decide (0 ≤ s ∧ s < 60) by simp [c1, c2]]
      obtain ⟨b3, hb3⟩ : ∃ b, b = decide (0 ≤ s ∧ s < 60) := ⟨_, rfl⟩
      have g3 := Lib.hid hb3.symm
      rw [← hb3]
      clear c1 c2 hb3
      go_enter Tryd.func97, Tryd.ntmps97
      go_wp2_with (go_at_call 99; refine (isBelow_any _ _ _).mono ?_; rintro e w' ⟨rfl, rfl⟩; first | rw [g1.out] | rw [g2.out] | rw [g3.out])
      go_ret
      exact ⟨rfl, (Below.refl _ w).alloc (Nat.le_refl _) _⟩
    · have g1 := Lib.hid (show decide (0 ≤ h ∧ h < 24) = true from decide_eq_true c1)
      have g2 := Lib.hid (show decide (0 ≤ mi ∧ mi < 60) = false from decide_eq_false c2)
      rw [show decide ((0 ≤ h ∧ h < 24) ∧ (0 ≤ mi ∧ mi < 60) ∧ 0 ≤ s ∧ s < 60) = false from decide_eq_false (by omega)]
      clear c1 c2
      go_enter Tryd.func97, Tryd.ntmps97
      go_wp2_with (go_at_call 99; refine (isBelow_any _ _ _).mono ?_; rintro e w' ⟨rfl, rfl⟩; first | rw [g1.out] | rw [g2.out])
      go_ret
      exact ⟨rfl, (Below.refl _ w).alloc (Nat.le_refl _) _⟩
  · have g1 := Lib.hid (show decide (0 ≤ h ∧ h < 24) = false from decide_eq_false c1)
    rw [show decide ((0 ≤ h ∧ h < 24) ∧ (0 ≤ mi ∧ mi < 60) ∧ 0 ≤ s ∧ s < 60) = false from decide_eq_false (by omega)]
    clear c1
    go_enter Tryd.func97, Tryd.ntmps97
    go_wp2_with (go_at_call 99; refine (isBelow_any _ _ _).mono ?_; rintro e w' ⟨rfl, rfl⟩; rw [g1.out])
    go_ret
    exact ⟨rfl, (Below.refl _ w).alloc (Nat.le_refl _) _⟩
def MomIs (y m d h mi s : Int) : Prop := May y m d ∧ TimeIs h mi s
instance (y m d h mi s : Int) : Decidable (MomIs y m d h mi s) := by unfold MomIs; infer_instance
def secOf (y m d h mi s : Int) : Int := dayOf y m d * 86400 + (h * 3600 + mi * 60 + s)
def instV (y m d h mi s : Int) : Int := if MomIs y m d h mi s then secOf y m d h mi s else 0
def momE (y m d h mi s : Int) : Int := if MomIs y m d h mi s then 0 else 60
theorem instant_any (y m d h mi s : Int) (w : World) (hT : Tabs w) :
    Calls Tryd.prog 94 #[momV y m d h mi s] w fun e w' => e = .returned (.tuple #[.int .i64 (instV y m d h mi s), .int .i64 (momE y m d h mi s)]) ∧ Below w.heap.size w w' := by
  have hb0 := (Below.refl _ w).alloc (Nat.le_refl _) (.cells #[.int .i64 y, .int .i64 m, .int .i64 d, .int .i64 h, .int .i64 mi, .int .i64 s] 112)
  have hr := heap_alloc_new w (.cells #[.int .i64 y, .int .i64 m, .int .i64 d, .int .i64 h, .int .i64 mi, .int .i64 s] 112)
  have hT1 := hT.next hb0
  have HB0 := Lib.hid hb0
  have HR := Lib.hid hr
  have HT1 := Lib.hid hT1
  clear hb0 hr hT hT1
  by_cases c1 : May y m d
  · have hdb := day_bounds c1
    have hcd := day_yes y m d _ HT1.out c1
    obtain ⟨N, hN⟩ : ∃ N, N = dayOf y m d := ⟨_, rfl⟩
    rw [← hN] at hdb hcd
    have HC := Lib.hid hcd
    clear hcd
    by_cases c2 : TimeIs h mi s
    · have hg := Lib.hid (show decide (TimeIs h mi s) = true from decide_eq_true c2)
      unfold instV momE
      rw [if_pos ⟨c1, c2⟩, if_pos ⟨c1, c2⟩]
      unfold secOf
      rw [← hN]
      obtain ⟨⟨t1, t2⟩, ⟨t3, t4⟩, t5, t6⟩ := c2
      clear c1 hN
      go_enter Tryd.func94, Tryd.ntmps94
      go_wp2_with fail
      refine HC.out.mono ?_
      rintro e w1 ⟨rfl, hB1⟩
      have hr1 := (hB1.block w.heap.size (by simp)).trans HR.out
      have HB1 := Lib.hid (HB0.out.trans (hB1.mono (by simp)))
      have a0 : w1.cell? ⟨w.heap.size, 0, none⟩ = some (.int .i64 y) := cell_of_row w1 _ 0 _ _ _ hr1
      have a1 : w1.cell? ⟨w.heap.size, 1, none⟩ = some (.int .i64 m) := cell_of_row w1 _ 1 _ _ _ hr1
      have a2 : w1.cell? ⟨w.heap.size, 2, none⟩ = some (.int .i64 d) := cell_of_row w1 _ 2 _ _ _ hr1
      have a3 : w1.cell? ⟨w.heap.size, 3, none⟩ = some (.int .i64 h) := cell_of_row w1 _ 3 _ _ _ hr1
      have a4 : w1.cell? ⟨w.heap.size, 4, none⟩ = some (.int .i64 mi) := cell_of_row w1 _ 4 _ _ _ hr1
      have a5 : w1.cell? ⟨w.heap.size, 5, none⟩ = some (.int .i64 s) := cell_of_row w1 _ 5 _ _ _ hr1
      have hlt : w.heap.size < w1.heap.size := (Array.getElem?_eq_some_iff.1 hr1).1
      have HR1 := Lib.hid hr1
      clear hB1 hr1 HC
      go_wp2_with fail
      refine (hasTime_any _ _ _ _ _ _ _).mono ?_
      rintro e w2 ⟨rfl, hB2⟩
      rw [hg.out]
      have hr2 := (hB2.block w.heap.size hlt).trans HR1.out
      have HB2 := Lib.hid (HB1.out.trans (hB2.mono HB1.out.size))
      clear a0 a1 a2 a3 a4 a5
      have a3 : w2.cell? ⟨w.heap.size, 3, none⟩ = some (.int .i64 h) := cell_of_row w2 _ 3 _ _ _ hr2
      have a4 : w2.cell? ⟨w.heap.size, 4, none⟩ = some (.int .i64 mi) := cell_of_row w2 _ 4 _ _ _ hr2
      have a5 : w2.cell? ⟨w.heap.size, 5, none⟩ = some (.int .i64 s) := cell_of_row w2 _ 5 _ _ _ hr2
      clear hB2 hr2
      go_wp2
      go_ret2
      exact ⟨rfl, HB2.out⟩
    · have hg := Lib.hid (show decide (TimeIs h mi s) = false from decide_eq_false c2)
      unfold instV momE
      rw [if_neg (fun h => c2 h.2), if_neg (fun h => c2 h.2)]
      clear c1 hN c2
      go_enter Tryd.func94, Tryd.ntmps94
      go_wp2_with fail
      refine HC.out.mono ?_
      rintro e w1 ⟨rfl, hB1⟩
      have hr1 := (hB1.block w.heap.size (by simp)).trans HR.out
      have HB1 := Lib.hid (HB0.out.trans (hB1.mono (by simp)))
      have a0 : w1.cell? ⟨w.heap.size, 0, none⟩ = some (.int .i64 y) := cell_of_row w1 _ 0 _ _ _ hr1
      have a1 : w1.cell? ⟨w.heap.size, 1, none⟩ = some (.int .i64 m) := cell_of_row w1 _ 1 _ _ _ hr1
      have a2 : w1.cell? ⟨w.heap.size, 2, none⟩ = some (.int .i64 d) := cell_of_row w1 _ 2 _ _ _ hr1
      have a3 : w1.cell? ⟨w.heap.size, 3, none⟩ = some (.int .i64 h) := cell_of_row w1 _ 3 _ _ _ hr1
      have a4 : w1.cell? ⟨w.heap.size, 4, none⟩ = some (.int .i64 mi) := cell_of_row w1 _ 4 _ _ _ hr1
      have a5 : w1.cell? ⟨w.heap.size, 5, none⟩ = some (.int .i64 s) := cell_of_row w1 _ 5 _ _ _ hr1
      clear hB1 hr1 HC
      go_wp2_with fail
      refine (hasTime_any _ _ _ _ _ _ _).mono ?_
      rintro e w2 ⟨rfl, hB2⟩
      rw [hg.out]
      have HB2 := Lib.hid (HB1.out.trans (hB2.mono HB1.out.size))
      clear hB2
      go_wp2
      go_ret2
      exact ⟨rfl, HB2.out⟩
  · have hcd := day_no y m d _ HT1.out c1
    have HC := Lib.hid hcd
    unfold instV momE
    rw [if_neg (fun h => c1 h.1), if_neg (fun h => c1 h.1)]
    clear hcd c1
    go_enter Tryd.func94, Tryd.ntmps94
    go_wp2_with fail
    refine HC.out.mono ?_
    rintro e w1 ⟨rfl, hB1⟩
    have HB1 := Lib.hid (HB0.out.trans (hB1.mono (by simp)))
    clear hB1 HC
    go_wp2
    go_ret2
    exact ⟨rfl, HB1.out⟩
theorem results_at {y m d h mi s e : Int} {b : Nat} {tmps : Array Value} {w : World} (h2 : tmps.getD 2 undef = .pointer (some ⟨b, 0, none⟩)) (h3 : tmps.getD 3 undef = .int .i64 e)
    (hb : w.heap[b]? = some (.cells #[.int .i64 y, .int .i64 m, .int .i64 d, .int .i64 h, .int .i64 mi, .int .i64 s] 112 (0, 0))) : (results Tryd.f67 tmps).run Tryd.prog w = .ok (.tuple #[momV y m d h mi s, .int .i64 e]) w := by
  have c0 : w.cell? ⟨b, 0, none⟩ = some (.int .i64 y) := cell_of_row w b 0 _ _ _ hb
  have c1 : w.cell? ⟨b, 1, none⟩ = some (.int .i64 m) := cell_of_row w b 1 _ _ _ hb
  have c2 : w.cell? ⟨b, 2, none⟩ = some (.int .i64 d) := cell_of_row w b 2 _ _ _ hb
  have c3 : w.cell? ⟨b, 3, none⟩ = some (.int .i64 h) := cell_of_row w b 3 _ _ _ hb
  have c4 : w.cell? ⟨b, 4, none⟩ = some (.int .i64 mi) := cell_of_row w b 4 _ _ _ hb
  have c5 : w.cell? ⟨b, 5, none⟩ = some (.int .i64 s) := cell_of_row w b 5 _ _ _ hb
  simp only [Array.getD_eq_getD_getElem?] at h2 h3
  simp [results, Tryd.results67, go_sem, h2, h3, c0, c1, c2, c3, c4, c5, momV]
theorem at_no (t : Int) (h : ¬ (0 ≤ t ∧ t < 253402300800)) (w : World) :
    Calls Tryd.prog 67 #[.int .i64 t] w fun e w' => e = .returned (.tuple #[momV 0 0 0 0 0 0, .int .i64 60]) ∧ Below w.heap.size w w' := by
  by_cases h0 : t < 0
  · go_enter Tryd.func67, Tryd.ntmps67
    go_wp2
    refine bodyPost_ret (results_at rfl rfl (heap_alloc_new w _)) rfl ?_
    exact ⟨rfl, (Below.refl _ w).alloc (Nat.le_refl _) _⟩
  · have h1 : 253402300800 ≤ t := by omega
    go_enter Tryd.func67, Tryd.ntmps67
    go_wp2
    refine bodyPost_ret (results_at rfl rfl (heap_alloc_new w _)) rfl ?_
    exact ⟨rfl, (Below.refl _ w).alloc (Nat.le_refl _) _⟩
set_option maxRecDepth 100000 in
theorem at_yes (t : Int) (h0 : 0 ≤ t) (h1 : t < 253402300800) (y m d : Int) (hi : IsDate (t / 86400) y m d) (w : World) (hT : Tabs w) :
    Calls Tryd.prog 67 #[.int .i64 t] w fun e w' => e = .returned (.tuple #[momV y m d (t % 86400 / 3600) (t % 3600 / 60) (t % 60), .int .i64 0]) ∧ Below w.heap.size w w' := by
  have hT1 := hT.next ((Below.refl _ w).alloc (Nat.le_refl _) (.cells #[.int .i64 0, .int .i64 0, .int .i64 0, .int .i64 0, .int .i64 0, .int .i64 0] 112))
  have hr := heap_alloc_new w (.cells #[.int .i64 0, .int .i64 0, .int .i64 0, .int .i64 0, .int .i64 0, .int .i64 0] 112)
  have HR := Lib.hid hr
  have HC := Lib.hid (of_is _ y m d hi _ hT1)
  have HB0 := Lib.hid ((Below.refl _ w).alloc (Nat.le_refl _) (.cells #[.int .i64 0, .int .i64 0, .int .i64 0, .int .i64 0, .int .i64 0, .int .i64 0] 112))
  clear hT hT1 hr hi
  go_enter Tryd.func67, Tryd.ntmps67
  go_wp2_with fail
  refine HC.out.mono ?_
  rintro e w1 ⟨rfl, hB1⟩
  have hr1 := (hB1.block w.heap.size (by simp)).trans HR.out
  have hlt : w.heap.size < w1.heap.size := (Array.getElem?_eq_some_iff.1 hr1).1
  have HB1 := Lib.hid (HB0.out.trans (hB1.mono (by simp)))
  have a0 : w1.cell? ⟨w.heap.size, 0, none⟩ = some (.int .i64 0) := cell_of_row w1 _ 0 _ _ _ hr1
  have a1 : w1.cell? ⟨w.heap.size, 1, none⟩ = some (.int .i64 0) := cell_of_row w1 _ 1 _ _ _ hr1
  have a2 : w1.cell? ⟨w.heap.size, 2, none⟩ = some (.int .i64 0) := cell_of_row w1 _ 2 _ _ _ hr1
  have a3 : w1.cell? ⟨w.heap.size, 3, none⟩ = some (.int .i64 0) := cell_of_row w1 _ 3 _ _ _ hr1
  have a4 : w1.cell? ⟨w.heap.size, 4, none⟩ = some (.int .i64 0) := cell_of_row w1 _ 4 _ _ _ hr1
  have a5 : w1.cell? ⟨w.heap.size, 5, none⟩ = some (.int .i64 0) := cell_of_row w1 _ 5 _ _ _ hr1
  have f0 := frozen_of_row w1 w.heap.size 0 _ _ hr1
  have f1 := frozen_of_row w1 w.heap.size 1 _ _ hr1
  have f2 := frozen_of_row w1 w.heap.size 2 _ _ hr1
  have f3 := frozen_of_row w1 w.heap.size 3 _ _ hr1
  have f4 := frozen_of_row w1 w.heap.size 4 _ _ hr1
  have f5 := frozen_of_row w1 w.heap.size 5 _ _ hr1
  have HR1 := Lib.hid hr1
  clear hB1 hr1 HC
  go_wp2
  have hrow := (heap_setCell_same _ w.heap.size 5 _ _ (.int .i64 (t % 60)) (heap_setCell_same _ w.heap.size 4 _ _ (.int .i64 (t % 3600 / 60)) (heap_setCell_same _ w.heap.size 3 _ _ (.int .i64 (t % 86400 / 3600)) (heap_setCell_same _ w.heap.size 2 _ _ (.int .i64 d) (heap_setCell_same _ w.heap.size 1 _ _ (.int .i64 m) (heap_setCell_same _ w.heap.size 0 _ _ (.int .i64 y) HR1.out))))))
  have hbel := ((((((HB1.out.setCell (p := ⟨w.heap.size, 0, none⟩) (by simp) (.int .i64 y)).setCell (p := ⟨w.heap.size, 1, none⟩) (by simp) (.int .i64 m)).setCell (p := ⟨w.heap.size, 2, none⟩) (by simp) (.int .i64 d)).setCell (p := ⟨w.heap.size, 3, none⟩) (by simp) (.int .i64 (t % 86400 / 3600))).setCell (p := ⟨w.heap.size, 4, none⟩) (by simp) (.int .i64 (t % 3600 / 60))).setCell (p := ⟨w.heap.size, 5, none⟩) (by simp) (.int .i64 (t % 60)))
  refine bodyPost_ret (results_at rfl rfl (heap_old hrow _)) rfl ?_
  exact ⟨rfl, hbel.alloc hbel.size _⟩
end Go.Proofs.YtbffmobjiiicoaaDoor
end
section
/- Contracts of the document's functions: Leap, Days, May, Clock, Weekday, Day, Of. -/
set_option linter.unusedVariables false
set_option linter.unusedSimpArgs false
namespace Go.Proofs.YtbffmobjiiicoaaDoor
open Go.RowKit Go.Shelf
end Go.Proofs.YtbffmobjiiicoaaDoor
end
section
/- Contracts of the document's functions: Day and Of. -/
set_option linter.unusedVariables false
set_option linter.unusedSimpArgs false
namespace Go.Proofs.YtbffmobjiiicoaaDoor
open Go.RowKit Go.Shelf
theorem leap_cases (y : Int) : (leap y = true ∧ lp y = 1) ∨ (leap y = false ∧ lp y = 0) := by
  cases h : leap y
  · exact .inr ⟨rfl, lp_no h⟩
  · exact .inl ⟨rfl, lp_leap h⟩
end Go.Proofs.YtbffmobjiiicoaaDoor
end
section
/- The walk of the statement CivilDays. -/
set_option linter.unusedVariables false
set_option linter.unusedSimpArgs false
namespace Go.Proofs.YtbffmobjiiicoaaDoor
open Go.RowKit Go.Shelf
theorem year_exists (n : Int) (h0 : 0 ≤ n) : ∀ k : Nat, n < ahead (1970 + k) → ∃ y : Int, 1970 ≤ y ∧ y < 1970 + k ∧ ahead y ≤ n ∧ n < ahead (y + 1)
  | 0, h => by rw [Int.natCast_zero, Int.add_zero, ahead_1970] at h; omega
  | k + 1, h => by
    by_cases hk : n < ahead (1970 + k)
    · obtain ⟨y, a, b, c⟩ := year_exists n h0 k hk
      exact ⟨y, a, by omega, c⟩
    · exact ⟨1970 + k, by omega, by omega, by omega, by rw [Int.natCast_add] at h; rw [Int.add_assoc]; exact h⟩
theorem month_exists (y r : Int) (h0 : 0 ≤ r) : ∀ k : Nat, k ≤ 12 → r < bef y (1 + k) → ∃ m : Int, 1 ≤ m ∧ m ≤ k ∧ bef y m ≤ r ∧ r < bef y m + dlen y m
  | 0, _, h => by rw [Int.natCast_zero, Int.add_zero, bef_one] at h; omega
  | k + 1, hk, h => by
    by_cases hr : r < bef y (1 + k)
    · obtain ⟨m, a, b, c⟩ := month_exists y r h0 k (by omega) hr
      exact ⟨m, a, by omega, c⟩
    · have hs := bef_succ (y := y) (m := 1 + k) (by omega) (by omega)
      exact ⟨1 + k, by omega, by omega, by omega, by rw [← hs]; rw [Int.natCast_add, ← Int.add_assoc] at h; exact h⟩
theorem date_exists (n : Int) (h0 : 0 ≤ n) (h1 : n ≤ 2932896) : ∃ y m d, IsDate n y m d := by
  obtain ⟨y, a, b, c, e⟩ := year_exists n h0 8030 (by rw [show (1970 : Int) + (8030 : Nat) = 10000 from rfl, ahead_10000]; omega)
  have hs := ahead_succ (y := y) (by omega)
  have h13 := bef_13 y
  obtain ⟨m, f, g, i, j⟩ := month_exists y (n - ahead y) (by omega) 12 (by omega) (by rw [show (1 : Int) + (12 : Nat) = 13 from rfl]; omega)
  exact ⟨y, m, _, isDate_of a (by omega) f (by omega) (by omega) (by omega)⟩
end Go.Proofs.YtbffmobjiiicoaaDoor
end
section
/- The contract of civil.Nth. -/
set_option linter.unusedVariables false
set_option linter.unusedSimpArgs false
namespace Go.Proofs.YtbffmobjiiicoaaDoor
open Go.RowKit Go.Shelf
/-- The first such weekday of a month, and the n-th, or the last. -/
def nthF (y m wd : Int) : Int := 1 + (wd - wkday (dayOf y m 1) + 7) % 7
def nthD (y m wd n : Int) : Int := if n = -1 then nthF y m wd + (dlen y m - nthF y m wd) / 7 * 7 else nthF y m wd + (n - 1) * 7
def NthIs (y m wd n : Int) : Prop := May y m 1 ∧ (1 ≤ wd ∧ wd ≤ 7) ∧ (n = -1 ∨ (1 ≤ n ∧ n ≤ 5 ∧ nthD y m wd n ≤ dlen y m))
instance (y m wd n : Int) : Decidable (NthIs y m wd n) := by unfold NthIs; infer_instance
theorem nthF_bounds (y m wd : Int) : 1 ≤ nthF y m wd ∧ nthF y m wd ≤ 7 := by unfold nthF; omega
theorem results_nth {y m d e : Int} {b : Nat} {tmps : Array Value} {w : World} (h2 : tmps.getD 8 undef = .pointer (some ⟨b, 0, none⟩)) (h3 : tmps.getD 9 undef = .int .i64 e)
    (hb : w.heap[b]? = some (.cells #[.int .i64 y, .int .i64 m, .int .i64 d] 110 (0, 0))) : (results Tryd.f93 tmps).run Tryd.prog w = .ok (.tuple #[dateV y m d, .int .i64 e]) w := by
  have c0 : w.cell? ⟨b, 0, none⟩ = some (.int .i64 y) := cell_of_row w b 0 _ _ _ hb
  have c1 : w.cell? ⟨b, 1, none⟩ = some (.int .i64 m) := cell_of_row w b 1 _ _ _ hb
  have c2 : w.cell? ⟨b, 2, none⟩ = some (.int .i64 d) := cell_of_row w b 2 _ _ _ hb
  simp only [Array.getD_eq_getD_getElem?] at h2 h3
  simp [results, Tryd.results93, go_sem, h2, h3, c0, c1, c2, dateV]
theorem nth_bad (y m wd n : Int) (h : ¬ (May y m 1 ∧ 1 ≤ wd ∧ wd ≤ 7)) (w : World) (hT : Tabs w) :
    Calls Tryd.prog 93 #[.int .i64 y, .int .i64 m, .int .i64 wd, .int .i64 n] w fun e w' => e = .returned (.tuple #[dateV 0 0 0, .int .i64 60]) ∧ Below w.heap.size w w' := by
  have hb0 := ((Below.refl _ w).alloc (Nat.le_refl _) (.cells #[.int .i64 0, .int .i64 0, .int .i64 0] 110)).alloc (by simp) (.cells #[.int .i64 y, .int .i64 m, .int .i64 1] 110)
  have hr := heap_old (heap_alloc_new w (.cells #[.int .i64 0, .int .i64 0, .int .i64 0] 110)) (.cells #[.int .i64 y, .int .i64 m, .int .i64 1] 110)
  have HB0 := Lib.hid hb0
  have HR0 := Lib.hid hr
  have hday := day_any y m 1 _ (hT.next hb0)
  clear hb0 hr hT
  by_cases hm : May y m 1
  · obtain ⟨N, hN⟩ : ∃ N, N = dayE y m 1 := ⟨_, rfl⟩
    rw [mayE_yes hm, ← hN] at hday
    have DAY := Lib.hid hday
    have hww : wd < 1 ∨ 7 < wd := by
      by_cases c : wd < 1
      · exact .inl c
      · by_cases c2 : 7 < wd
        · exact .inr c2
        · exact absurd ⟨hm, by omega, by omega⟩ h
    clear hday hN hm h
    rcases hww with hw1 | hw7
    · go_enter Tryd.func93, Tryd.ntmps93
      go_wp2_with fail
      refine DAY.out.mono ?_
      rintro e w1 ⟨rfl, hB1⟩
      have hr1 := (hB1.block w.heap.size (by simp; omega)).trans HR0.out
      have HB1 := Lib.hid (HB0.out.trans (hB1.mono (by simp; omega)))
      have a0 : w1.cell? ⟨w.heap.size, 0, none⟩ = some (.int .i64 0) := cell_of_row w1 _ 0 _ _ _ hr1
      have a1 : w1.cell? ⟨w.heap.size, 1, none⟩ = some (.int .i64 0) := cell_of_row w1 _ 1 _ _ _ hr1
      have a2 : w1.cell? ⟨w.heap.size, 2, none⟩ = some (.int .i64 0) := cell_of_row w1 _ 2 _ _ _ hr1
      have f0 := frozen_of_row w1 w.heap.size 0 _ _ hr1
      have f1 := frozen_of_row w1 w.heap.size 1 _ _ hr1
      have f2 := frozen_of_row w1 w.heap.size 2 _ _ hr1
      have HR1 := Lib.hid hr1
      clear hB1 hr1
      go_wp2
      have hrow := heap_setCell_same _ w.heap.size 2 _ _ (.int .i64 0) (heap_setCell_same _ w.heap.size 1 _ _ (.int .i64 0) (heap_setCell_same w1 w.heap.size 0 _ _ (.int .i64 0) HR1.out))
      refine bodyPost_ret (results_nth rfl rfl hrow) rfl ?_
      exact ⟨rfl, ((HB1.out.setCell (p := ⟨w.heap.size, 0, none⟩) (by simp) (.int .i64 0)).setCell (p := ⟨w.heap.size, 1, none⟩) (by simp) (.int .i64 0)).setCell (p := ⟨w.heap.size, 2, none⟩) (by simp) (.int .i64 0)⟩
    · have hw1 : ¬ wd < 1 := by omega
      go_enter Tryd.func93, Tryd.ntmps93
      go_wp2_with fail
      refine DAY.out.mono ?_
      rintro e w1 ⟨rfl, hB1⟩
      have hr1 := (hB1.block w.heap.size (by simp; omega)).trans HR0.out
      have HB1 := Lib.hid (HB0.out.trans (hB1.mono (by simp; omega)))
      have a0 : w1.cell? ⟨w.heap.size, 0, none⟩ = some (.int .i64 0) := cell_of_row w1 _ 0 _ _ _ hr1
      have a1 : w1.cell? ⟨w.heap.size, 1, none⟩ = some (.int .i64 0) := cell_of_row w1 _ 1 _ _ _ hr1
      have a2 : w1.cell? ⟨w.heap.size, 2, none⟩ = some (.int .i64 0) := cell_of_row w1 _ 2 _ _ _ hr1
      have f0 := frozen_of_row w1 w.heap.size 0 _ _ hr1
      have f1 := frozen_of_row w1 w.heap.size 1 _ _ hr1
      have f2 := frozen_of_row w1 w.heap.size 2 _ _ hr1
      have HR1 := Lib.hid hr1
      clear hB1 hr1
      go_wp2
      have hrow := heap_setCell_same _ w.heap.size 2 _ _ (.int .i64 0) (heap_setCell_same _ w.heap.size 1 _ _ (.int .i64 0) (heap_setCell_same w1 w.heap.size 0 _ _ (.int .i64 0) HR1.out))
      refine bodyPost_ret (results_nth rfl rfl hrow) rfl ?_
      exact ⟨rfl, ((HB1.out.setCell (p := ⟨w.heap.size, 0, none⟩) (by simp) (.int .i64 0)).setCell (p := ⟨w.heap.size, 1, none⟩) (by simp) (.int .i64 0)).setCell (p := ⟨w.heap.size, 2, none⟩) (by simp) (.int .i64 0)⟩
  · obtain ⟨N, hN⟩ : ∃ N, N = dayE y m 1 := ⟨_, rfl⟩
    rw [mayE_no hm, ← hN] at hday
    have DAY := Lib.hid hday
    clear hday hN hm h
    go_enter Tryd.func93, Tryd.ntmps93
    go_wp2_with fail
    refine DAY.out.mono ?_
    rintro e w1 ⟨rfl, hB1⟩
    have hr1 := (hB1.block w.heap.size (by simp; omega)).trans HR0.out
    have HB1 := Lib.hid (HB0.out.trans (hB1.mono (by simp; omega)))
    have a0 : w1.cell? ⟨w.heap.size, 0, none⟩ = some (.int .i64 0) := cell_of_row w1 _ 0 _ _ _ hr1
    have a1 : w1.cell? ⟨w.heap.size, 1, none⟩ = some (.int .i64 0) := cell_of_row w1 _ 1 _ _ _ hr1
    have a2 : w1.cell? ⟨w.heap.size, 2, none⟩ = some (.int .i64 0) := cell_of_row w1 _ 2 _ _ _ hr1
    have f0 := frozen_of_row w1 w.heap.size 0 _ _ hr1
    have f1 := frozen_of_row w1 w.heap.size 1 _ _ hr1
    have f2 := frozen_of_row w1 w.heap.size 2 _ _ hr1
    have HR1 := Lib.hid hr1
    clear hB1 hr1
    go_wp2
    have hrow := heap_setCell_same _ w.heap.size 2 _ _ (.int .i64 0) (heap_setCell_same _ w.heap.size 1 _ _ (.int .i64 0) (heap_setCell_same w1 w.heap.size 0 _ _ (.int .i64 0) HR1.out))
    refine bodyPost_ret (results_nth rfl rfl hrow) rfl ?_
    exact ⟨rfl, ((HB1.out.setCell (p := ⟨w.heap.size, 0, none⟩) (by simp) (.int .i64 0)).setCell (p := ⟨w.heap.size, 1, none⟩) (by simp) (.int .i64 0)).setCell (p := ⟨w.heap.size, 2, none⟩) (by simp) (.int .i64 0)⟩
set_option maxRecDepth 100000 in
set_option maxHeartbeats 4000000 in
theorem nth_def (y m wd n : Int) (hn : ¬ (n = -1 ∨ (1 ≤ n ∧ n ≤ 5))) (hm : May y m 1) (hw1 : 1 ≤ wd) (hw7 : wd ≤ 7) (w : World) (hT : Tabs w) :
    Calls Tryd.prog 93 #[.int .i64 y, .int .i64 m, .int .i64 wd, .int .i64 n] w fun e w' => e = .returned (.tuple #[dateV 0 0 0, .int .i64 60]) ∧ Below w.heap.size w w' := by
  have hb0 := ((Below.refl _ w).alloc (Nat.le_refl _) (.cells #[.int .i64 0, .int .i64 0, .int .i64 0] 110)).alloc (by simp) (.cells #[.int .i64 y, .int .i64 m, .int .i64 1] 110)
  have hr := heap_old (heap_alloc_new w (.cells #[.int .i64 0, .int .i64 0, .int .i64 0] 110)) (.cells #[.int .i64 y, .int .i64 m, .int .i64 1] 110)
  have hr2 := heap_alloc_new (w.alloc (.cells #[.int .i64 0, .int .i64 0, .int .i64 0] 110)) (.cells #[.int .i64 y, .int .i64 m, .int .i64 1] 110)
  rw [World.size_alloc] at hr2
  have HT := Lib.hid (show ∀ X, Below w.heap.size w X → Tabs X from fun X hX => hT.next hX)
  have hday := day_yes y m 1 _ (hT.next hb0) hm
  have hdb := day_bounds hm
  have hdg := dlen_ge (y := y) (m := m) hm.2.2.1 hm.2.2.2.1
  have hdl := dlen_bounds (y := y) (m := m)
  have hwkb := wkday_bounds (dayOf y m 1)
  have hwk := fun X => weekday_any (dayOf y m 1) X
  rw [wkB_in hdb.1 hdb.2] at hwk
  have n1 : (n == 1) = false := by simp; omega
  have n2 : (n == 2) = false := by simp; omega
  have n3 : (n == 3) = false := by simp; omega
  have n4 : (n == 4) = false := by simp; omega
  have n5 : (n == 5) = false := by simp; omega
  have n6 : (n == -1) = false := by simp; omega
  clear hn
  have hdays := fun X hX => days_any y m X hX
  have hF1 : nthF y m wd = 1 + (wd - wkday (dayOf y m 1) + 7) % 7 := rfl
  have hfb := nthF_bounds y m wd
  have hchk := fun d X hX => check_any y m d X hX
  have hym : 1970 ≤ y ∧ y ≤ 9999 ∧ 1 ≤ m ∧ m ≤ 12 := ⟨hm.1, hm.2.1, hm.2.2.1, hm.2.2.2.1⟩
  generalize dayOf y m 1 = N at *
  generalize wkday N = K at *
  generalize nthF y m wd = F1 at *
  have hdays2 : ∀ (X : World), Tabs X → Calls Tryd.prog 84 #[.int .i64 y, .int .i64 m] X fun e w' => e = .returned (.int .i64 (dlen y m)) ∧ X = w' := hdays
  generalize dlen y m = L at *
  have DAY := Lib.hid hday
  have WK := Lib.hid hwk
  have DAYS := Lib.hid hdays2
  have HB0 := Lib.hid hb0
  have HR0 := Lib.hid hr
  have HD0 := Lib.hid hr2
  have HF1 := Lib.hid hF1
  clear hb0 hr hr2 hday hwk hdays hdays2 hchk hT hm hF1
  go_enter Tryd.func93, Tryd.ntmps93
  go_wp2_with fail
  refine DAY.out.mono ?_
  rintro e w1 ⟨rfl, hB1⟩
  have hr1 := (hB1.block w.heap.size (by simp; omega)).trans HR0.out
  have hd1 := (hB1.block (w.heap.size + 1) (by simp)).trans HD0.out
  have HB1 := Lib.hid (HB0.out.trans (hB1.mono (by simp; omega)))
  have c2 : w1.cell? ⟨w.heap.size + 1, 2, none⟩ = some (.int .i64 1) := cell_of_row w1 _ 2 _ _ _ hd1
  have fz := frozen_of_row w1 (w.heap.size + 1) 2 _ _ hd1
  have HR1 := Lib.hid hr1
  have HD1 := Lib.hid hd1
  clear hB1 hr1 hd1 DAY HB0 HR0 HD0
  go_wp2_with fail
  have g1 : IntKind.i64.wrap (wd - K) = wd - K := by simp only [IntKind.wrap_i64, wrap64]; omega
  have g2 : IntKind.i64.wrap (wd - K + 7) = wd - K + 7 := by simp only [IntKind.wrap_i64, wrap64]; omega
  have g3 : (wd - K + 7).tmod 7 = (wd - K + 7) % 7 := Int.tmod_eq_emod_of_nonneg (by omega)
  have g4 : IntKind.i64.wrap (1 + (wd - K + 7) % 7) = F1 := by rw [HF1.out]; simp only [IntKind.wrap_i64, wrap64]; omega
  have G1 := Lib.hid g1
  have G2 := Lib.hid g2
  have G3 := Lib.hid g3
  have G4 := Lib.hid g4
  clear g1 g2 g3 g4
  have hmx : Tryd.prog.follows .mixedOrders = true := by kernel_rfl
  refine wp_region_still_tail 10 hmx (by kernel_rfl) ?_
  change wpStill _ _ w1.drew _ _ _
  simp only [List.take_succ_cons, List.take_zero, List.drop_succ_cons, List.drop_zero]
  have c2d : w1.drew.cell? ⟨w.heap.size + 1, 2, none⟩ = some (.int .i64 1) := c2
  have fzd : w1.drew.frozen? ⟨w.heap.size + 1, 2, none⟩ = false := fz
  still_step
  still_step
  still_step
  still_step
  still_call ((WK.out w1.drew).mono fun _ _ h => ⟨h.1, h.2.symm⟩)
  repeat still_step
  refine wpStill_nil ?_
  change wpList _ _ _ _ _ w1.drew
  rw [G1.out, G2.out, G3.out, G4.out]
  have xr : w1.drew.heap[w.heap.size]? = some (.cells #[.int .i64 0, .int .i64 0, .int .i64 0] 110 (0, 0)) := HR1.out
  have xd : w1.drew.heap[w.heap.size + 1]? = some (.cells #[.int .i64 y, .int .i64 m, .int .i64 1] 110 (0, 0)) := HD1.out
  have xb : Below w.heap.size w w1.drew := HB1.out.drew
  generalize w1.drew = X at *
  have d0 : X.cell? ⟨w.heap.size + 1, 0, none⟩ = some (.int .i64 y) := cell_of_row X _ 0 _ _ _ xd
  have d1 : X.cell? ⟨w.heap.size + 1, 1, none⟩ = some (.int .i64 m) := cell_of_row X _ 1 _ _ _ xd
  have XR := Lib.hid xr
  have XD := Lib.hid xd
  have XB := Lib.hid xb
  clear xr xd xb c2 fz HR1 HD1 HB1 G1 G2 G3 G4
  have hY : Below w.heap.size w (X.setCell ⟨w.heap.size + 1, 2, none⟩ (.int .i64 F1)) := XB.out.setCell (p := ⟨w.heap.size + 1, 2, none⟩) (by simp) _
  have yr := (heap_setCell_other X ⟨w.heap.size + 1, 2, none⟩ w.heap.size (.int .i64 F1) (by simp)).trans XR.out
  have r0 : (X.setCell ⟨w.heap.size + 1, 2, none⟩ (.int .i64 F1)).cell? ⟨w.heap.size, 0, none⟩ = some (.int .i64 0) := cell_of_row _ _ 0 _ _ _ yr
  have r1 : (X.setCell ⟨w.heap.size + 1, 2, none⟩ (.int .i64 F1)).cell? ⟨w.heap.size, 1, none⟩ = some (.int .i64 0) := cell_of_row _ _ 1 _ _ _ yr
  have r2 : (X.setCell ⟨w.heap.size + 1, 2, none⟩ (.int .i64 F1)).cell? ⟨w.heap.size, 2, none⟩ = some (.int .i64 0) := cell_of_row _ _ 2 _ _ _ yr
  have f0 := frozen_of_row X w.heap.size 0 _ _ XR.out
  have f1 := frozen_of_row X w.heap.size 1 _ _ XR.out
  have f2 := frozen_of_row X w.heap.size 2 _ _ XR.out
  have x0 : X.cell? ⟨w.heap.size, 0, none⟩ = some (.int .i64 0) := cell_of_row _ _ 0 _ _ _ XR.out
  have x1 : X.cell? ⟨w.heap.size, 1, none⟩ = some (.int .i64 0) := cell_of_row _ _ 1 _ _ _ XR.out
  have x2 : X.cell? ⟨w.heap.size, 2, none⟩ = some (.int .i64 0) := cell_of_row _ _ 2 _ _ _ XR.out
  have HY := Lib.hid hY
  have YR := Lib.hid yr
  clear hY yr r0 r1 r2 d0 d1
  go_wp2
  have hrow := heap_setCell_same _ w.heap.size 2 _ _ (.int .i64 0) (heap_setCell_same _ w.heap.size 1 _ _ (.int .i64 0) (heap_setCell_same _ w.heap.size 0 _ _ (.int .i64 0) YR.out))
  refine bodyPost_ret (results_nth rfl rfl hrow) rfl ?_
  exact ⟨rfl, ((HY.out.setCell (p := ⟨w.heap.size, 0, none⟩) (by simp) _).setCell (p := ⟨w.heap.size, 1, none⟩) (by simp) _).setCell (p := ⟨w.heap.size, 2, none⟩) (by simp) _⟩
set_option maxRecDepth 100000 in
set_option maxHeartbeats 4000000 in
theorem nth_1 (y m wd : Int) (hm : May y m 1) (hw1 : 1 ≤ wd) (hw7 : wd ≤ 7) (w : World) (hT : Tabs w) :
    Calls Tryd.prog 93 #[.int .i64 y, .int .i64 m, .int .i64 wd, .int .i64 1] w fun e w' => e = .returned (if nthD y m wd 1 ≤ dlen y m then .tuple #[dateV y m (nthD y m wd 1), .int .i64 0] else .tuple #[dateV 0 0 0, .int .i64 60]) ∧ Below w.heap.size w w' := by
  have hb0 := ((Below.refl _ w).alloc (Nat.le_refl _) (.cells #[.int .i64 0, .int .i64 0, .int .i64 0] 110)).alloc (by simp) (.cells #[.int .i64 y, .int .i64 m, .int .i64 1] 110)
  have hr := heap_old (heap_alloc_new w (.cells #[.int .i64 0, .int .i64 0, .int .i64 0] 110)) (.cells #[.int .i64 y, .int .i64 m, .int .i64 1] 110)
  have hr2 := heap_alloc_new (w.alloc (.cells #[.int .i64 0, .int .i64 0, .int .i64 0] 110)) (.cells #[.int .i64 y, .int .i64 m, .int .i64 1] 110)
  rw [World.size_alloc] at hr2
  have HT := Lib.hid (show ∀ X, Below w.heap.size w X → Tabs X from fun X hX => hT.next hX)
  have hday := day_yes y m 1 _ (hT.next hb0) hm
  have hdb := day_bounds hm
  have hdg := dlen_ge (y := y) (m := m) hm.2.2.1 hm.2.2.2.1
  have hdl := dlen_bounds (y := y) (m := m)
  have hwkb := wkday_bounds (dayOf y m 1)
  have hwk := fun X => weekday_any (dayOf y m 1) X
  rw [wkB_in hdb.1 hdb.2] at hwk
  have hdays := fun X hX => days_any y m X hX
  have hF1 : nthF y m wd = 1 + (wd - wkday (dayOf y m 1) + 7) % 7 := rfl
  have hfb := nthF_bounds y m wd
  have hnd : nthD y m wd 1 = nthF y m wd := by unfold nthD; rw [if_neg (by omega)]; omega
  rw [hnd]
  have hchk := fun d X hX => check_any y m d X hX
  have hmay : ∀ d, 1 ≤ d → mayE y m d = if d ≤ dlen y m then 0 else 60 := fun d hd => by
    unfold mayE
    obtain ⟨q1, q2, q3, q4, q5, q6⟩ := hm
    by_cases c : d ≤ dlen y m
    · rw [if_pos c, if_pos ⟨q1, q2, q3, q4, hd, c⟩]
    · rw [if_neg c, if_neg (fun h => c h.2.2.2.2.2)]
  have hym : 1970 ≤ y ∧ y ≤ 9999 ∧ 1 ≤ m ∧ m ≤ 12 := ⟨hm.1, hm.2.1, hm.2.2.1, hm.2.2.2.1⟩
  generalize dayOf y m 1 = N at *
  generalize wkday N = K at *
  generalize nthF y m wd = F1 at *
  have hdays2 : ∀ (X : World), Tabs X → Calls Tryd.prog 84 #[.int .i64 y, .int .i64 m] X fun e w' => e = .returned (.int .i64 (dlen y m)) ∧ X = w' := hdays
  generalize dlen y m = L at *
  have hdn : 1 ≤ F1 ∧ F1 ≤ 60 := by omega
  have hchk2 := hchk (F1)
  rw [hmay (F1) hdn.1] at hchk2
  have DAY := Lib.hid hday
  have WK := Lib.hid hwk
  have DAYS := Lib.hid hdays2
  have CHK := Lib.hid hchk2
  have HB0 := Lib.hid hb0
  have HR0 := Lib.hid hr
  have HD0 := Lib.hid hr2
  have HF1 := Lib.hid hF1
  obtain ⟨RV, hRV⟩ : ∃ v, v = (if F1 ≤ L then Value.tuple #[dateV y m (F1), .int .i64 0] else Value.tuple #[dateV 0 0 0, .int .i64 60]) := ⟨_, rfl⟩
  rw [← hRV]
  have HRV := Lib.hid hRV
  clear hb0 hr hr2 hday hwk hdays hdays2 hchk hchk2 hmay hT hm hF1 hnd hRV
  go_enter Tryd.func93, Tryd.ntmps93
  go_wp2_with fail
  refine DAY.out.mono ?_
  rintro e w1 ⟨rfl, hB1⟩
  have hr1 := (hB1.block w.heap.size (by simp; omega)).trans HR0.out
  have hd1 := (hB1.block (w.heap.size + 1) (by simp)).trans HD0.out
  have HB1 := Lib.hid (HB0.out.trans (hB1.mono (by simp; omega)))
  have c2 : w1.cell? ⟨w.heap.size + 1, 2, none⟩ = some (.int .i64 1) := cell_of_row w1 _ 2 _ _ _ hd1
  have fz := frozen_of_row w1 (w.heap.size + 1) 2 _ _ hd1
  have HR1 := Lib.hid hr1
  have HD1 := Lib.hid hd1
  clear hB1 hr1 hd1 DAY HB0 HR0 HD0
  go_wp2_with fail
  have g1 : IntKind.i64.wrap (wd - K) = wd - K := by simp only [IntKind.wrap_i64, wrap64]; omega
  have g2 : IntKind.i64.wrap (wd - K + 7) = wd - K + 7 := by simp only [IntKind.wrap_i64, wrap64]; omega
  have g3 : (wd - K + 7).tmod 7 = (wd - K + 7) % 7 := Int.tmod_eq_emod_of_nonneg (by omega)
  have g4 : IntKind.i64.wrap (1 + (wd - K + 7) % 7) = F1 := by rw [HF1.out]; simp only [IntKind.wrap_i64, wrap64]; omega
  have G1 := Lib.hid g1
  have G2 := Lib.hid g2
  have G3 := Lib.hid g3
  have G4 := Lib.hid g4
  clear g1 g2 g3 g4
  have hmx : Tryd.prog.follows .mixedOrders = true := by kernel_rfl
  refine wp_region_still_tail 10 hmx (by kernel_rfl) ?_
  change wpStill _ _ w1.drew _ _ _
  simp only [List.take_succ_cons, List.take_zero, List.drop_succ_cons, List.drop_zero]
  have c2d : w1.drew.cell? ⟨w.heap.size + 1, 2, none⟩ = some (.int .i64 1) := c2
  have fzd : w1.drew.frozen? ⟨w.heap.size + 1, 2, none⟩ = false := fz
  still_step
  still_step
  still_step
  still_step
  still_call ((WK.out w1.drew).mono fun _ _ h => ⟨h.1, h.2.symm⟩)
  repeat still_step
  refine wpStill_nil ?_
  change wpList _ _ _ _ _ w1.drew
  rw [G1.out, G2.out, G3.out, G4.out]
  have xr : w1.drew.heap[w.heap.size]? = some (.cells #[.int .i64 0, .int .i64 0, .int .i64 0] 110 (0, 0)) := HR1.out
  have xd : w1.drew.heap[w.heap.size + 1]? = some (.cells #[.int .i64 y, .int .i64 m, .int .i64 1] 110 (0, 0)) := HD1.out
  have xb : Below w.heap.size w w1.drew := HB1.out.drew
  generalize w1.drew = X at *
  have d0 : X.cell? ⟨w.heap.size + 1, 0, none⟩ = some (.int .i64 y) := cell_of_row X _ 0 _ _ _ xd
  have d1 : X.cell? ⟨w.heap.size + 1, 1, none⟩ = some (.int .i64 m) := cell_of_row X _ 1 _ _ _ xd
  have XR := Lib.hid xr
  have XD := Lib.hid xd
  have XB := Lib.hid xb
  clear xr xd xb c2 fz HR1 HD1 HB1 G1 G2 G3 G4
  have hA : ((X.setCell ⟨w.heap.size + 1, 2, none⟩ (.int .i64 F1)).setCell ⟨w.heap.size + 1, 2, none⟩ (.int .i64 (F1))).cell? ⟨w.heap.size + 1, 2, none⟩ = some (.int .i64 (F1)) :=
    World.cell?_setCell_same _ _ _ (World.cell?_setCell_same _ _ _ c2d)
  have hY : Below w.heap.size w ((X.setCell ⟨w.heap.size + 1, 2, none⟩ (.int .i64 F1)).setCell ⟨w.heap.size + 1, 2, none⟩ (.int .i64 (F1))) := (XB.out.setCell (p := ⟨w.heap.size + 1, 2, none⟩) (by simp) _).setCell (p := ⟨w.heap.size + 1, 2, none⟩) (by simp) _
  have hYr := (heap_setCell_other (X.setCell ⟨w.heap.size + 1, 2, none⟩ (.int .i64 F1)) ⟨w.heap.size + 1, 2, none⟩ w.heap.size (.int .i64 (F1)) (by simp)).trans ((heap_setCell_other X ⟨w.heap.size + 1, 2, none⟩ w.heap.size (.int .i64 F1) (by simp)).trans XR.out)
  have hYd := heap_setCell_same _ (w.heap.size + 1) 2 _ _ (.int .i64 (F1)) (heap_setCell_same X (w.heap.size + 1) 2 _ _ (.int .i64 F1) XD.out)
  have HY := Lib.hid hY
  have HYR := Lib.hid hYr
  have HYD := Lib.hid hYd
  clear hY hYr hYd
  go_wp2_with fail
  generalize hYY : ((X.setCell ⟨w.heap.size + 1, 2, none⟩ (.int .i64 F1)).setCell ⟨w.heap.size + 1, 2, none⟩ (.int .i64 (F1))) = Y at *
  refine (CHK.out _ (HT.out _ HY.out)).mono ?_
  rintro e w2 ⟨rfl, hB2⟩
  have hlt : w.heap.size + 1 < Y.heap.size := (Array.getElem?_eq_some_iff.1 HYD.out).1
  have yr := (hB2.block w.heap.size (by omega)).trans HYR.out
  have yd := (hB2.block (w.heap.size + 1) hlt).trans HYD.out
  have yb := HY.out.trans (hB2.mono HY.out.size)
  have r0 : w2.cell? ⟨w.heap.size, 0, none⟩ = some (.int .i64 0) := cell_of_row w2 _ 0 _ _ _ yr
  have r1 : w2.cell? ⟨w.heap.size, 1, none⟩ = some (.int .i64 0) := cell_of_row w2 _ 1 _ _ _ yr
  have r2 : w2.cell? ⟨w.heap.size, 2, none⟩ = some (.int .i64 0) := cell_of_row w2 _ 2 _ _ _ yr
  have f0 := frozen_of_row w2 w.heap.size 0 _ _ yr
  have f1 := frozen_of_row w2 w.heap.size 1 _ _ yr
  have f2 := frozen_of_row w2 w.heap.size 2 _ _ yr
  have e0 : w2.cell? ⟨w.heap.size + 1, 0, none⟩ = some (.int .i64 y) := cell_of_row w2 _ 0 _ _ _ yd
  have e1 : w2.cell? ⟨w.heap.size + 1, 1, none⟩ = some (.int .i64 m) := cell_of_row w2 _ 1 _ _ _ yd
  have e2 : w2.cell? ⟨w.heap.size + 1, 2, none⟩ = some (.int .i64 (F1)) := cell_of_row w2 _ 2 _ _ _ yd
  have YR := Lib.hid yr
  have YB := Lib.hid yb
  clear hB2 yr yd yb HYR HYD HY CHK hYY d0 d1 c2d fzd hA
  by_cases hle : F1 ≤ L
  · rw [if_pos hle]
    have HLE := Lib.hid hle
    clear hle
    go_wp2
    have hrow := heap_setCell_same _ w.heap.size 2 _ _ (.int .i64 (F1)) (heap_setCell_same _ w.heap.size 1 _ _ (.int .i64 m) (heap_setCell_same w2 w.heap.size 0 _ _ (.int .i64 y) YR.out))
    refine bodyPost_ret (results_nth rfl rfl hrow) rfl ?_
    exact ⟨by rw [HRV.out, if_pos (by have := HLE.out; omega)], ((YB.out.setCell (p := ⟨w.heap.size, 0, none⟩) (by simp) _).setCell (p := ⟨w.heap.size, 1, none⟩) (by simp) _).setCell (p := ⟨w.heap.size, 2, none⟩) (by simp) _⟩
  · rw [if_neg hle]
    have HLE := Lib.hid hle
    clear hle
    go_wp2
    have hrow := heap_setCell_same _ w.heap.size 2 _ _ (.int .i64 0) (heap_setCell_same _ w.heap.size 1 _ _ (.int .i64 0) (heap_setCell_same w2 w.heap.size 0 _ _ (.int .i64 0) YR.out))
    refine bodyPost_ret (results_nth rfl rfl hrow) rfl ?_
    exact ⟨by rw [HRV.out, if_neg (by have := HLE.out; omega)], ((YB.out.setCell (p := ⟨w.heap.size, 0, none⟩) (by simp) _).setCell (p := ⟨w.heap.size, 1, none⟩) (by simp) _).setCell (p := ⟨w.heap.size, 2, none⟩) (by simp) _⟩
set_option maxRecDepth 100000 in
set_option maxHeartbeats 4000000 in
theorem nth_2 (y m wd : Int) (hm : May y m 1) (hw1 : 1 ≤ wd) (hw7 : wd ≤ 7) (w : World) (hT : Tabs w) :
    Calls Tryd.prog 93 #[.int .i64 y, .int .i64 m, .int .i64 wd, .int .i64 2] w fun e w' => e = .returned (if nthD y m wd 2 ≤ dlen y m then .tuple #[dateV y m (nthD y m wd 2), .int .i64 0] else .tuple #[dateV 0 0 0, .int .i64 60]) ∧ Below w.heap.size w w' := by
  have hb0 := ((Below.refl _ w).alloc (Nat.le_refl _) (.cells #[.int .i64 0, .int .i64 0, .int .i64 0] 110)).alloc (by simp) (.cells #[.int .i64 y, .int .i64 m, .int .i64 1] 110)
  have hr := heap_old (heap_alloc_new w (.cells #[.int .i64 0, .int .i64 0, .int .i64 0] 110)) (.cells #[.int .i64 y, .int .i64 m, .int .i64 1] 110)
  have hr2 := heap_alloc_new (w.alloc (.cells #[.int .i64 0, .int .i64 0, .int .i64 0] 110)) (.cells #[.int .i64 y, .int .i64 m, .int .i64 1] 110)
  rw [World.size_alloc] at hr2
  have HT := Lib.hid (show ∀ X, Below w.heap.size w X → Tabs X from fun X hX => hT.next hX)
  have hday := day_yes y m 1 _ (hT.next hb0) hm
  have hdb := day_bounds hm
  have hdg := dlen_ge (y := y) (m := m) hm.2.2.1 hm.2.2.2.1
  have hdl := dlen_bounds (y := y) (m := m)
  have hwkb := wkday_bounds (dayOf y m 1)
  have hwk := fun X => weekday_any (dayOf y m 1) X
  rw [wkB_in hdb.1 hdb.2] at hwk
  have hdays := fun X hX => days_any y m X hX
  have hF1 : nthF y m wd = 1 + (wd - wkday (dayOf y m 1) + 7) % 7 := rfl
  have hfb := nthF_bounds y m wd
  have hnd : nthD y m wd 2 = nthF y m wd + 7 := by unfold nthD; rw [if_neg (by omega)]; omega
  rw [hnd]
  have hchk := fun d X hX => check_any y m d X hX
  have hmay : ∀ d, 1 ≤ d → mayE y m d = if d ≤ dlen y m then 0 else 60 := fun d hd => by
    unfold mayE
    obtain ⟨q1, q2, q3, q4, q5, q6⟩ := hm
    by_cases c : d ≤ dlen y m
    · rw [if_pos c, if_pos ⟨q1, q2, q3, q4, hd, c⟩]
    · rw [if_neg c, if_neg (fun h => c h.2.2.2.2.2)]
  have hym : 1970 ≤ y ∧ y ≤ 9999 ∧ 1 ≤ m ∧ m ≤ 12 := ⟨hm.1, hm.2.1, hm.2.2.1, hm.2.2.2.1⟩
  generalize dayOf y m 1 = N at *
  generalize wkday N = K at *
  generalize nthF y m wd = F1 at *
  have hdays2 : ∀ (X : World), Tabs X → Calls Tryd.prog 84 #[.int .i64 y, .int .i64 m] X fun e w' => e = .returned (.int .i64 (dlen y m)) ∧ X = w' := hdays
  generalize dlen y m = L at *
  have hdn : 1 ≤ F1 + 7 ∧ F1 + 7 ≤ 60 := by omega
  have hchk2 := hchk (F1 + 7)
  rw [hmay (F1 + 7) hdn.1] at hchk2
  have DAY := Lib.hid hday
  have WK := Lib.hid hwk
  have DAYS := Lib.hid hdays2
  have CHK := Lib.hid hchk2
  have HB0 := Lib.hid hb0
  have HR0 := Lib.hid hr
  have HD0 := Lib.hid hr2
  have HF1 := Lib.hid hF1
  obtain ⟨RV, hRV⟩ : ∃ v, v = (if F1 + 7 ≤ L then Value.tuple #[dateV y m (F1 + 7), .int .i64 0] else Value.tuple #[dateV 0 0 0, .int .i64 60]) := ⟨_, rfl⟩
  rw [← hRV]
  have HRV := Lib.hid hRV
  clear hb0 hr hr2 hday hwk hdays hdays2 hchk hchk2 hmay hT hm hF1 hnd hRV
  go_enter Tryd.func93, Tryd.ntmps93
  go_wp2_with fail
  refine DAY.out.mono ?_
  rintro e w1 ⟨rfl, hB1⟩
  have hr1 := (hB1.block w.heap.size (by simp; omega)).trans HR0.out
  have hd1 := (hB1.block (w.heap.size + 1) (by simp)).trans HD0.out
  have HB1 := Lib.hid (HB0.out.trans (hB1.mono (by simp; omega)))
  have c2 : w1.cell? ⟨w.heap.size + 1, 2, none⟩ = some (.int .i64 1) := cell_of_row w1 _ 2 _ _ _ hd1
  have fz := frozen_of_row w1 (w.heap.size + 1) 2 _ _ hd1
  have HR1 := Lib.hid hr1
  have HD1 := Lib.hid hd1
  clear hB1 hr1 hd1 DAY HB0 HR0 HD0
  go_wp2_with fail
  have g1 : IntKind.i64.wrap (wd - K) = wd - K := by simp only [IntKind.wrap_i64, wrap64]; omega
  have g2 : IntKind.i64.wrap (wd - K + 7) = wd - K + 7 := by simp only [IntKind.wrap_i64, wrap64]; omega
  have g3 : (wd - K + 7).tmod 7 = (wd - K + 7) % 7 := Int.tmod_eq_emod_of_nonneg (by omega)
  have g4 : IntKind.i64.wrap (1 + (wd - K + 7) % 7) = F1 := by rw [HF1.out]; simp only [IntKind.wrap_i64, wrap64]; omega
  have G1 := Lib.hid g1
  have G2 := Lib.hid g2
  have G3 := Lib.hid g3
  have G4 := Lib.hid g4
  clear g1 g2 g3 g4
  have hmx : Tryd.prog.follows .mixedOrders = true := by kernel_rfl
  refine wp_region_still_tail 10 hmx (by kernel_rfl) ?_
  change wpStill _ _ w1.drew _ _ _
  simp only [List.take_succ_cons, List.take_zero, List.drop_succ_cons, List.drop_zero]
  have c2d : w1.drew.cell? ⟨w.heap.size + 1, 2, none⟩ = some (.int .i64 1) := c2
  have fzd : w1.drew.frozen? ⟨w.heap.size + 1, 2, none⟩ = false := fz
  still_step
  still_step
  still_step
  still_step
  still_call ((WK.out w1.drew).mono fun _ _ h => ⟨h.1, h.2.symm⟩)
  repeat still_step
  refine wpStill_nil ?_
  change wpList _ _ _ _ _ w1.drew
  rw [G1.out, G2.out, G3.out, G4.out]
  have xr : w1.drew.heap[w.heap.size]? = some (.cells #[.int .i64 0, .int .i64 0, .int .i64 0] 110 (0, 0)) := HR1.out
  have xd : w1.drew.heap[w.heap.size + 1]? = some (.cells #[.int .i64 y, .int .i64 m, .int .i64 1] 110 (0, 0)) := HD1.out
  have xb : Below w.heap.size w w1.drew := HB1.out.drew
  generalize w1.drew = X at *
  have d0 : X.cell? ⟨w.heap.size + 1, 0, none⟩ = some (.int .i64 y) := cell_of_row X _ 0 _ _ _ xd
  have d1 : X.cell? ⟨w.heap.size + 1, 1, none⟩ = some (.int .i64 m) := cell_of_row X _ 1 _ _ _ xd
  have XR := Lib.hid xr
  have XD := Lib.hid xd
  have XB := Lib.hid xb
  clear xr xd xb c2 fz HR1 HD1 HB1 G1 G2 G3 G4
  have hA : ((X.setCell ⟨w.heap.size + 1, 2, none⟩ (.int .i64 F1)).setCell ⟨w.heap.size + 1, 2, none⟩ (.int .i64 (F1 + 7))).cell? ⟨w.heap.size + 1, 2, none⟩ = some (.int .i64 (F1 + 7)) :=
    World.cell?_setCell_same _ _ _ (World.cell?_setCell_same _ _ _ c2d)
  have hY : Below w.heap.size w ((X.setCell ⟨w.heap.size + 1, 2, none⟩ (.int .i64 F1)).setCell ⟨w.heap.size + 1, 2, none⟩ (.int .i64 (F1 + 7))) := (XB.out.setCell (p := ⟨w.heap.size + 1, 2, none⟩) (by simp) _).setCell (p := ⟨w.heap.size + 1, 2, none⟩) (by simp) _
  have hYr := (heap_setCell_other (X.setCell ⟨w.heap.size + 1, 2, none⟩ (.int .i64 F1)) ⟨w.heap.size + 1, 2, none⟩ w.heap.size (.int .i64 (F1 + 7)) (by simp)).trans ((heap_setCell_other X ⟨w.heap.size + 1, 2, none⟩ w.heap.size (.int .i64 F1) (by simp)).trans XR.out)
  have hYd := heap_setCell_same _ (w.heap.size + 1) 2 _ _ (.int .i64 (F1 + 7)) (heap_setCell_same X (w.heap.size + 1) 2 _ _ (.int .i64 F1) XD.out)
  have HY := Lib.hid hY
  have HYR := Lib.hid hYr
  have HYD := Lib.hid hYd
  clear hY hYr hYd
  go_wp2_with fail
  generalize hYY : ((X.setCell ⟨w.heap.size + 1, 2, none⟩ (.int .i64 F1)).setCell ⟨w.heap.size + 1, 2, none⟩ (.int .i64 (F1 + 7))) = Y at *
  refine (CHK.out _ (HT.out _ HY.out)).mono ?_
  rintro e w2 ⟨rfl, hB2⟩
  have hlt : w.heap.size + 1 < Y.heap.size := (Array.getElem?_eq_some_iff.1 HYD.out).1
  have yr := (hB2.block w.heap.size (by omega)).trans HYR.out
  have yd := (hB2.block (w.heap.size + 1) hlt).trans HYD.out
  have yb := HY.out.trans (hB2.mono HY.out.size)
  have r0 : w2.cell? ⟨w.heap.size, 0, none⟩ = some (.int .i64 0) := cell_of_row w2 _ 0 _ _ _ yr
  have r1 : w2.cell? ⟨w.heap.size, 1, none⟩ = some (.int .i64 0) := cell_of_row w2 _ 1 _ _ _ yr
  have r2 : w2.cell? ⟨w.heap.size, 2, none⟩ = some (.int .i64 0) := cell_of_row w2 _ 2 _ _ _ yr
  have f0 := frozen_of_row w2 w.heap.size 0 _ _ yr
  have f1 := frozen_of_row w2 w.heap.size 1 _ _ yr
  have f2 := frozen_of_row w2 w.heap.size 2 _ _ yr
  have e0 : w2.cell? ⟨w.heap.size + 1, 0, none⟩ = some (.int .i64 y) := cell_of_row w2 _ 0 _ _ _ yd
  have e1 : w2.cell? ⟨w.heap.size + 1, 1, none⟩ = some (.int .i64 m) := cell_of_row w2 _ 1 _ _ _ yd
  have e2 : w2.cell? ⟨w.heap.size + 1, 2, none⟩ = some (.int .i64 (F1 + 7)) := cell_of_row w2 _ 2 _ _ _ yd
  have YR := Lib.hid yr
  have YB := Lib.hid yb
  clear hB2 yr yd yb HYR HYD HY CHK hYY d0 d1 c2d fzd hA
  by_cases hle : F1 + 7 ≤ L
  · rw [if_pos hle]
    have HLE := Lib.hid hle
    clear hle
    go_wp2
    have hrow := heap_setCell_same _ w.heap.size 2 _ _ (.int .i64 (F1 + 7)) (heap_setCell_same _ w.heap.size 1 _ _ (.int .i64 m) (heap_setCell_same w2 w.heap.size 0 _ _ (.int .i64 y) YR.out))
    refine bodyPost_ret (results_nth rfl rfl hrow) rfl ?_
    exact ⟨by rw [HRV.out, if_pos (by have := HLE.out; omega)], ((YB.out.setCell (p := ⟨w.heap.size, 0, none⟩) (by simp) _).setCell (p := ⟨w.heap.size, 1, none⟩) (by simp) _).setCell (p := ⟨w.heap.size, 2, none⟩) (by simp) _⟩
  · rw [if_neg hle]
    have HLE := Lib.hid hle
    clear hle
    go_wp2
    have hrow := heap_setCell_same _ w.heap.size 2 _ _ (.int .i64 0) (heap_setCell_same _ w.heap.size 1 _ _ (.int .i64 0) (heap_setCell_same w2 w.heap.size 0 _ _ (.int .i64 0) YR.out))
    refine bodyPost_ret (results_nth rfl rfl hrow) rfl ?_
    exact ⟨by rw [HRV.out, if_neg (by have := HLE.out; omega)], ((YB.out.setCell (p := ⟨w.heap.size, 0, none⟩) (by simp) _).setCell (p := ⟨w.heap.size, 1, none⟩) (by simp) _).setCell (p := ⟨w.heap.size, 2, none⟩) (by simp) _⟩
set_option maxRecDepth 100000 in
set_option maxHeartbeats 4000000 in
theorem nth_3 (y m wd : Int) (hm : May y m 1) (hw1 : 1 ≤ wd) (hw7 : wd ≤ 7) (w : World) (hT : Tabs w) :
    Calls Tryd.prog 93 #[.int .i64 y, .int .i64 m, .int .i64 wd, .int .i64 3] w fun e w' => e = .returned (if nthD y m wd 3 ≤ dlen y m then .tuple #[dateV y m (nthD y m wd 3), .int .i64 0] else .tuple #[dateV 0 0 0, .int .i64 60]) ∧ Below w.heap.size w w' := by
  have hb0 := ((Below.refl _ w).alloc (Nat.le_refl _) (.cells #[.int .i64 0, .int .i64 0, .int .i64 0] 110)).alloc (by simp) (.cells #[.int .i64 y, .int .i64 m, .int .i64 1] 110)
  have hr := heap_old (heap_alloc_new w (.cells #[.int .i64 0, .int .i64 0, .int .i64 0] 110)) (.cells #[.int .i64 y, .int .i64 m, .int .i64 1] 110)
  have hr2 := heap_alloc_new (w.alloc (.cells #[.int .i64 0, .int .i64 0, .int .i64 0] 110)) (.cells #[.int .i64 y, .int .i64 m, .int .i64 1] 110)
  rw [World.size_alloc] at hr2
  have HT := Lib.hid (show ∀ X, Below w.heap.size w X → Tabs X from fun X hX => hT.next hX)
  have hday := day_yes y m 1 _ (hT.next hb0) hm
  have hdb := day_bounds hm
  have hdg := dlen_ge (y := y) (m := m) hm.2.2.1 hm.2.2.2.1
  have hdl := dlen_bounds (y := y) (m := m)
  have hwkb := wkday_bounds (dayOf y m 1)
  have hwk := fun X => weekday_any (dayOf y m 1) X
  rw [wkB_in hdb.1 hdb.2] at hwk
  have hdays := fun X hX => days_any y m X hX
  have hF1 : nthF y m wd = 1 + (wd - wkday (dayOf y m 1) + 7) % 7 := rfl
  have hfb := nthF_bounds y m wd
  have hnd : nthD y m wd 3 = nthF y m wd + 14 := by unfold nthD; rw [if_neg (by omega)]; omega
  rw [hnd]
  have hchk := fun d X hX => check_any y m d X hX
  have hmay : ∀ d, 1 ≤ d → mayE y m d = if d ≤ dlen y m then 0 else 60 := fun d hd => by
    unfold mayE
    obtain ⟨q1, q2, q3, q4, q5, q6⟩ := hm
    by_cases c : d ≤ dlen y m
    · rw [if_pos c, if_pos ⟨q1, q2, q3, q4, hd, c⟩]
    · rw [if_neg c, if_neg (fun h => c h.2.2.2.2.2)]
  have hym : 1970 ≤ y ∧ y ≤ 9999 ∧ 1 ≤ m ∧ m ≤ 12 := ⟨hm.1, hm.2.1, hm.2.2.1, hm.2.2.2.1⟩
  generalize dayOf y m 1 = N at *
  generalize wkday N = K at *
  generalize nthF y m wd = F1 at *
  have hdays2 : ∀ (X : World), Tabs X → Calls Tryd.prog 84 #[.int .i64 y, .int .i64 m] X fun e w' => e = .returned (.int .i64 (dlen y m)) ∧ X = w' := hdays
  generalize dlen y m = L at *
  have hdn : 1 ≤ F1 + 14 ∧ F1 + 14 ≤ 60 := by omega
  have hchk2 := hchk (F1 + 14)
  rw [hmay (F1 + 14) hdn.1] at hchk2
  have DAY := Lib.hid hday
  have WK := Lib.hid hwk
  have DAYS := Lib.hid hdays2
  have CHK := Lib.hid hchk2
  have HB0 := Lib.hid hb0
  have HR0 := Lib.hid hr
  have HD0 := Lib.hid hr2
  have HF1 := Lib.hid hF1
  obtain ⟨RV, hRV⟩ : ∃ v, v = (if F1 + 14 ≤ L then Value.tuple #[dateV y m (F1 + 14), .int .i64 0] else Value.tuple #[dateV 0 0 0, .int .i64 60]) := ⟨_, rfl⟩
  rw [← hRV]
  have HRV := Lib.hid hRV
  clear hb0 hr hr2 hday hwk hdays hdays2 hchk hchk2 hmay hT hm hF1 hnd hRV
  go_enter Tryd.func93, Tryd.ntmps93
  go_wp2_with fail
  refine DAY.out.mono ?_
  rintro e w1 ⟨rfl, hB1⟩
  have hr1 := (hB1.block w.heap.size (by simp; omega)).trans HR0.out
  have hd1 := (hB1.block (w.heap.size + 1) (by simp)).trans HD0.out
  have HB1 := Lib.hid (HB0.out.trans (hB1.mono (by simp; omega)))
  have c2 : w1.cell? ⟨w.heap.size + 1, 2, none⟩ = some (.int .i64 1) := cell_of_row w1 _ 2 _ _ _ hd1
  have fz := frozen_of_row w1 (w.heap.size + 1) 2 _ _ hd1
  have HR1 := Lib.hid hr1
  have HD1 := Lib.hid hd1
  clear hB1 hr1 hd1 DAY HB0 HR0 HD0
  go_wp2_with fail
  have g1 : IntKind.i64.wrap (wd - K) = wd - K := by simp only [IntKind.wrap_i64, wrap64]; omega
  have g2 : IntKind.i64.wrap (wd - K + 7) = wd - K + 7 := by simp only [IntKind.wrap_i64, wrap64]; omega
  have g3 : (wd - K + 7).tmod 7 = (wd - K + 7) % 7 := Int.tmod_eq_emod_of_nonneg (by omega)
  have g4 : IntKind.i64.wrap (1 + (wd - K + 7) % 7) = F1 := by rw [HF1.out]; simp only [IntKind.wrap_i64, wrap64]; omega
  have G1 := Lib.hid g1
  have G2 := Lib.hid g2
  have G3 := Lib.hid g3
  have G4 := Lib.hid g4
  clear g1 g2 g3 g4
  have hmx : Tryd.prog.follows .mixedOrders = true := by kernel_rfl
  refine wp_region_still_tail 10 hmx (by kernel_rfl) ?_
  change wpStill _ _ w1.drew _ _ _
  simp only [List.take_succ_cons, List.take_zero, List.drop_succ_cons, List.drop_zero]
  have c2d : w1.drew.cell? ⟨w.heap.size + 1, 2, none⟩ = some (.int .i64 1) := c2
  have fzd : w1.drew.frozen? ⟨w.heap.size + 1, 2, none⟩ = false := fz
  still_step
  still_step
  still_step
  still_step
  still_call ((WK.out w1.drew).mono fun _ _ h => ⟨h.1, h.2.symm⟩)
  repeat still_step
  refine wpStill_nil ?_
  change wpList _ _ _ _ _ w1.drew
  rw [G1.out, G2.out, G3.out, G4.out]
  have xr : w1.drew.heap[w.heap.size]? = some (.cells #[.int .i64 0, .int .i64 0, .int .i64 0] 110 (0, 0)) := HR1.out
  have xd : w1.drew.heap[w.heap.size + 1]? = some (.cells #[.int .i64 y, .int .i64 m, .int .i64 1] 110 (0, 0)) := HD1.out
  have xb : Below w.heap.size w w1.drew := HB1.out.drew
  generalize w1.drew = X at *
  have d0 : X.cell? ⟨w.heap.size + 1, 0, none⟩ = some (.int .i64 y) := cell_of_row X _ 0 _ _ _ xd
  have d1 : X.cell? ⟨w.heap.size + 1, 1, none⟩ = some (.int .i64 m) := cell_of_row X _ 1 _ _ _ xd
  have XR := Lib.hid xr
  have XD := Lib.hid xd
  have XB := Lib.hid xb
  clear xr xd xb c2 fz HR1 HD1 HB1 G1 G2 G3 G4
  have hA : ((X.setCell ⟨w.heap.size + 1, 2, none⟩ (.int .i64 F1)).setCell ⟨w.heap.size + 1, 2, none⟩ (.int .i64 (F1 + 14))).cell? ⟨w.heap.size + 1, 2, none⟩ = some (.int .i64 (F1 + 14)) :=
    World.cell?_setCell_same _ _ _ (World.cell?_setCell_same _ _ _ c2d)
  have hY : Below w.heap.size w ((X.setCell ⟨w.heap.size + 1, 2, none⟩ (.int .i64 F1)).setCell ⟨w.heap.size + 1, 2, none⟩ (.int .i64 (F1 + 14))) := (XB.out.setCell (p := ⟨w.heap.size + 1, 2, none⟩) (by simp) _).setCell (p := ⟨w.heap.size + 1, 2, none⟩) (by simp) _
  have hYr := (heap_setCell_other (X.setCell ⟨w.heap.size + 1, 2, none⟩ (.int .i64 F1)) ⟨w.heap.size + 1, 2, none⟩ w.heap.size (.int .i64 (F1 + 14)) (by simp)).trans ((heap_setCell_other X ⟨w.heap.size + 1, 2, none⟩ w.heap.size (.int .i64 F1) (by simp)).trans XR.out)
  have hYd := heap_setCell_same _ (w.heap.size + 1) 2 _ _ (.int .i64 (F1 + 14)) (heap_setCell_same X (w.heap.size + 1) 2 _ _ (.int .i64 F1) XD.out)
  have HY := Lib.hid hY
  have HYR := Lib.hid hYr
  have HYD := Lib.hid hYd
  clear hY hYr hYd
  go_wp2_with fail
  generalize hYY : ((X.setCell ⟨w.heap.size + 1, 2, none⟩ (.int .i64 F1)).setCell ⟨w.heap.size + 1, 2, none⟩ (.int .i64 (F1 + 14))) = Y at *
  refine (CHK.out _ (HT.out _ HY.out)).mono ?_
  rintro e w2 ⟨rfl, hB2⟩
  have hlt : w.heap.size + 1 < Y.heap.size := (Array.getElem?_eq_some_iff.1 HYD.out).1
  have yr := (hB2.block w.heap.size (by omega)).trans HYR.out
  have yd := (hB2.block (w.heap.size + 1) hlt).trans HYD.out
  have yb := HY.out.trans (hB2.mono HY.out.size)
  have r0 : w2.cell? ⟨w.heap.size, 0, none⟩ = some (.int .i64 0) := cell_of_row w2 _ 0 _ _ _ yr
  have r1 : w2.cell? ⟨w.heap.size, 1, none⟩ = some (.int .i64 0) := cell_of_row w2 _ 1 _ _ _ yr
  have r2 : w2.cell? ⟨w.heap.size, 2, none⟩ = some (.int .i64 0) := cell_of_row w2 _ 2 _ _ _ yr
  have f0 := frozen_of_row w2 w.heap.size 0 _ _ yr
  have f1 := frozen_of_row w2 w.heap.size 1 _ _ yr
  have f2 := frozen_of_row w2 w.heap.size 2 _ _ yr
  have e0 : w2.cell? ⟨w.heap.size + 1, 0, none⟩ = some (.int .i64 y) := cell_of_row w2 _ 0 _ _ _ yd
  have e1 : w2.cell? ⟨w.heap.size + 1, 1, none⟩ = some (.int .i64 m) := cell_of_row w2 _ 1 _ _ _ yd
  have e2 : w2.cell? ⟨w.heap.size + 1, 2, none⟩ = some (.int .i64 (F1 + 14)) := cell_of_row w2 _ 2 _ _ _ yd
  have YR := Lib.hid yr
  have YB := Lib.hid yb
  clear hB2 yr yd yb HYR HYD HY CHK hYY d0 d1 c2d fzd hA
  by_cases hle : F1 + 14 ≤ L
  · rw [if_pos hle]
    have HLE := Lib.hid hle
    clear hle
    go_wp2
    have hrow := heap_setCell_same _ w.heap.size 2 _ _ (.int .i64 (F1 + 14)) (heap_setCell_same _ w.heap.size 1 _ _ (.int .i64 m) (heap_setCell_same w2 w.heap.size 0 _ _ (.int .i64 y) YR.out))
    refine bodyPost_ret (results_nth rfl rfl hrow) rfl ?_
    exact ⟨by rw [HRV.out, if_pos (by have := HLE.out; omega)], ((YB.out.setCell (p := ⟨w.heap.size, 0, none⟩) (by simp) _).setCell (p := ⟨w.heap.size, 1, none⟩) (by simp) _).setCell (p := ⟨w.heap.size, 2, none⟩) (by simp) _⟩
  · rw [if_neg hle]
    have HLE := Lib.hid hle
    clear hle
    go_wp2
    have hrow := heap_setCell_same _ w.heap.size 2 _ _ (.int .i64 0) (heap_setCell_same _ w.heap.size 1 _ _ (.int .i64 0) (heap_setCell_same w2 w.heap.size 0 _ _ (.int .i64 0) YR.out))
    refine bodyPost_ret (results_nth rfl rfl hrow) rfl ?_
    exact ⟨by rw [HRV.out, if_neg (by have := HLE.out; omega)], ((YB.out.setCell (p := ⟨w.heap.size, 0, none⟩) (by simp) _).setCell (p := ⟨w.heap.size, 1, none⟩) (by simp) _).setCell (p := ⟨w.heap.size, 2, none⟩) (by simp) _⟩
set_option maxRecDepth 100000 in
set_option maxHeartbeats 4000000 in
theorem nth_4 (y m wd : Int) (hm : May y m 1) (hw1 : 1 ≤ wd) (hw7 : wd ≤ 7) (w : World) (hT : Tabs w) :
    Calls Tryd.prog 93 #[.int .i64 y, .int .i64 m, .int .i64 wd, .int .i64 4] w fun e w' => e = .returned (if nthD y m wd 4 ≤ dlen y m then .tuple #[dateV y m (nthD y m wd 4), .int .i64 0] else .tuple #[dateV 0 0 0, .int .i64 60]) ∧ Below w.heap.size w w' := by
  have hb0 := ((Below.refl _ w).alloc (Nat.le_refl _) (.cells #[.int .i64 0, .int .i64 0, .int .i64 0] 110)).alloc (by simp) (.cells #[.int .i64 y, .int .i64 m, .int .i64 1] 110)
  have hr := heap_old (heap_alloc_new w (.cells #[.int .i64 0, .int .i64 0, .int .i64 0] 110)) (.cells #[.int .i64 y, .int .i64 m, .int .i64 1] 110)
  have hr2 := heap_alloc_new (w.alloc (.cells #[.int .i64 0, .int .i64 0, .int .i64 0] 110)) (.cells #[.int .i64 y, .int .i64 m, .int .i64 1] 110)
  rw [World.size_alloc] at hr2
  have HT := Lib.hid (show ∀ X, Below w.heap.size w X → Tabs X from fun X hX => hT.next hX)
  have hday := day_yes y m 1 _ (hT.next hb0) hm
  have hdb := day_bounds hm
  have hdg := dlen_ge (y := y) (m := m) hm.2.2.1 hm.2.2.2.1
  have hdl := dlen_bounds (y := y) (m := m)
  have hwkb := wkday_bounds (dayOf y m 1)
  have hwk := fun X => weekday_any (dayOf y m 1) X
  rw [wkB_in hdb.1 hdb.2] at hwk
  have hdays := fun X hX => days_any y m X hX
  have hF1 : nthF y m wd = 1 + (wd - wkday (dayOf y m 1) + 7) % 7 := rfl
  have hfb := nthF_bounds y m wd
  have hnd : nthD y m wd 4 = nthF y m wd + 21 := by unfold nthD; rw [if_neg (by omega)]; omega
  rw [hnd]
  have hchk := fun d X hX => check_any y m d X hX
  have hmay : ∀ d, 1 ≤ d → mayE y m d = if d ≤ dlen y m then 0 else 60 := fun d hd => by
    unfold mayE
    obtain ⟨q1, q2, q3, q4, q5, q6⟩ := hm
    by_cases c : d ≤ dlen y m
    · rw [if_pos c, if_pos ⟨q1, q2, q3, q4, hd, c⟩]
    · rw [if_neg c, if_neg (fun h => c h.2.2.2.2.2)]
  have hym : 1970 ≤ y ∧ y ≤ 9999 ∧ 1 ≤ m ∧ m ≤ 12 := ⟨hm.1, hm.2.1, hm.2.2.1, hm.2.2.2.1⟩
  generalize dayOf y m 1 = N at *
  generalize wkday N = K at *
  generalize nthF y m wd = F1 at *
  have hdays2 : ∀ (X : World), Tabs X → Calls Tryd.prog 84 #[.int .i64 y, .int .i64 m] X fun e w' => e = .returned (.int .i64 (dlen y m)) ∧ X = w' := hdays
  generalize dlen y m = L at *
  have hdn : 1 ≤ F1 + 21 ∧ F1 + 21 ≤ 60 := by omega
  have hchk2 := hchk (F1 + 21)
  rw [hmay (F1 + 21) hdn.1] at hchk2
  have DAY := Lib.hid hday
  have WK := Lib.hid hwk
  have DAYS := Lib.hid hdays2
  have CHK := Lib.hid hchk2
  have HB0 := Lib.hid hb0
  have HR0 := Lib.hid hr
  have HD0 := Lib.hid hr2
  have HF1 := Lib.hid hF1
  obtain ⟨RV, hRV⟩ : ∃ v, v = (if F1 + 21 ≤ L then Value.tuple #[dateV y m (F1 + 21), .int .i64 0] else Value.tuple #[dateV 0 0 0, .int .i64 60]) := ⟨_, rfl⟩
  rw [← hRV]
  have HRV := Lib.hid hRV
  clear hb0 hr hr2 hday hwk hdays hdays2 hchk hchk2 hmay hT hm hF1 hnd hRV
  go_enter Tryd.func93, Tryd.ntmps93
  go_wp2_with fail
  refine DAY.out.mono ?_
  rintro e w1 ⟨rfl, hB1⟩
  have hr1 := (hB1.block w.heap.size (by simp; omega)).trans HR0.out
  have hd1 := (hB1.block (w.heap.size + 1) (by simp)).trans HD0.out
  have HB1 := Lib.hid (HB0.out.trans (hB1.mono (by simp; omega)))
  have c2 : w1.cell? ⟨w.heap.size + 1, 2, none⟩ = some (.int .i64 1) := cell_of_row w1 _ 2 _ _ _ hd1
  have fz := frozen_of_row w1 (w.heap.size + 1) 2 _ _ hd1
  have HR1 := Lib.hid hr1
  have HD1 := Lib.hid hd1
  clear hB1 hr1 hd1 DAY HB0 HR0 HD0
  go_wp2_with fail
  have g1 : IntKind.i64.wrap (wd - K) = wd - K := by simp only [IntKind.wrap_i64, wrap64]; omega
  have g2 : IntKind.i64.wrap (wd - K + 7) = wd - K + 7 := by simp only [IntKind.wrap_i64, wrap64]; omega
  have g3 : (wd - K + 7).tmod 7 = (wd - K + 7) % 7 := Int.tmod_eq_emod_of_nonneg (by omega)
  have g4 : IntKind.i64.wrap (1 + (wd - K + 7) % 7) = F1 := by rw [HF1.out]; simp only [IntKind.wrap_i64, wrap64]; omega
  have G1 := Lib.hid g1
  have G2 := Lib.hid g2
  have G3 := Lib.hid g3
  have G4 := Lib.hid g4
  clear g1 g2 g3 g4
  have hmx : Tryd.prog.follows .mixedOrders = true := by kernel_rfl
  refine wp_region_still_tail 10 hmx (by kernel_rfl) ?_
  change wpStill _ _ w1.drew _ _ _
  simp only [List.take_succ_cons, List.take_zero, List.drop_succ_cons, List.drop_zero]
  have c2d : w1.drew.cell? ⟨w.heap.size + 1, 2, none⟩ = some (.int .i64 1) := c2
  have fzd : w1.drew.frozen? ⟨w.heap.size + 1, 2, none⟩ = false := fz
  still_step
  still_step
  still_step
  still_step
  still_call ((WK.out w1.drew).mono fun _ _ h => ⟨h.1, h.2.symm⟩)
  repeat still_step
  refine wpStill_nil ?_
  change wpList _ _ _ _ _ w1.drew
  rw [G1.out, G2.out, G3.out, G4.out]
  have xr : w1.drew.heap[w.heap.size]? = some (.cells #[.int .i64 0, .int .i64 0, .int .i64 0] 110 (0, 0)) := HR1.out
  have xd : w1.drew.heap[w.heap.size + 1]? = some (.cells #[.int .i64 y, .int .i64 m, .int .i64 1] 110 (0, 0)) := HD1.out
  have xb : Below w.heap.size w w1.drew := HB1.out.drew
  generalize w1.drew = X at *
  have d0 : X.cell? ⟨w.heap.size + 1, 0, none⟩ = some (.int .i64 y) := cell_of_row X _ 0 _ _ _ xd
  have d1 : X.cell? ⟨w.heap.size + 1, 1, none⟩ = some (.int .i64 m) := cell_of_row X _ 1 _ _ _ xd
  have XR := Lib.hid xr
  have XD := Lib.hid xd
  have XB := Lib.hid xb
  clear xr xd xb c2 fz HR1 HD1 HB1 G1 G2 G3 G4
  have hA : ((X.setCell ⟨w.heap.size + 1, 2, none⟩ (.int .i64 F1)).setCell ⟨w.heap.size + 1, 2, none⟩ (.int .i64 (F1 + 21))).cell? ⟨w.heap.size + 1, 2, none⟩ = some (.int .i64 (F1 + 21)) :=
    World.cell?_setCell_same _ _ _ (World.cell?_setCell_same _ _ _ c2d)
  have hY : Below w.heap.size w ((X.setCell ⟨w.heap.size + 1, 2, none⟩ (.int .i64 F1)).setCell ⟨w.heap.size + 1, 2, none⟩ (.int .i64 (F1 + 21))) := (XB.out.setCell (p := ⟨w.heap.size + 1, 2, none⟩) (by simp) _).setCell (p := ⟨w.heap.size + 1, 2, none⟩) (by simp) _
  have hYr := (heap_setCell_other (X.setCell ⟨w.heap.size + 1, 2, none⟩ (.int .i64 F1)) ⟨w.heap.size + 1, 2, none⟩ w.heap.size (.int .i64 (F1 + 21)) (by simp)).trans ((heap_setCell_other X ⟨w.heap.size + 1, 2, none⟩ w.heap.size (.int .i64 F1) (by simp)).trans XR.out)
  have hYd := heap_setCell_same _ (w.heap.size + 1) 2 _ _ (.int .i64 (F1 + 21)) (heap_setCell_same X (w.heap.size + 1) 2 _ _ (.int .i64 F1) XD.out)
  have HY := Lib.hid hY
  have HYR := Lib.hid hYr
  have HYD := Lib.hid hYd
  clear hY hYr hYd
  go_wp2_with fail
  generalize hYY : ((X.setCell ⟨w.heap.size + 1, 2, none⟩ (.int .i64 F1)).setCell ⟨w.heap.size + 1, 2, none⟩ (.int .i64 (F1 + 21))) = Y at *
  refine (CHK.out _ (HT.out _ HY.out)).mono ?_
  rintro e w2 ⟨rfl, hB2⟩
  have hlt : w.heap.size + 1 < Y.heap.size := (Array.getElem?_eq_some_iff.1 HYD.out).1
  have yr := (hB2.block w.heap.size (by omega)).trans HYR.out
  have yd := (hB2.block (w.heap.size + 1) hlt).trans HYD.out
  have yb := HY.out.trans (hB2.mono HY.out.size)
  have r0 : w2.cell? ⟨w.heap.size, 0, none⟩ = some (.int .i64 0) := cell_of_row w2 _ 0 _ _ _ yr
  have r1 : w2.cell? ⟨w.heap.size, 1, none⟩ = some (.int .i64 0) := cell_of_row w2 _ 1 _ _ _ yr
  have r2 : w2.cell? ⟨w.heap.size, 2, none⟩ = some (.int .i64 0) := cell_of_row w2 _ 2 _ _ _ yr
  have f0 := frozen_of_row w2 w.heap.size 0 _ _ yr
  have f1 := frozen_of_row w2 w.heap.size 1 _ _ yr
  have f2 := frozen_of_row w2 w.heap.size 2 _ _ yr
  have e0 : w2.cell? ⟨w.heap.size + 1, 0, none⟩ = some (.int .i64 y) := cell_of_row w2 _ 0 _ _ _ yd
  have e1 : w2.cell? ⟨w.heap.size + 1, 1, none⟩ = some (.int .i64 m) := cell_of_row w2 _ 1 _ _ _ yd
  have e2 : w2.cell? ⟨w.heap.size + 1, 2, none⟩ = some (.int .i64 (F1 + 21)) := cell_of_row w2 _ 2 _ _ _ yd
  have YR := Lib.hid yr
  have YB := Lib.hid yb
  clear hB2 yr yd yb HYR HYD HY CHK hYY d0 d1 c2d fzd hA
  by_cases hle : F1 + 21 ≤ L
  · rw [if_pos hle]
    have HLE := Lib.hid hle
    clear hle
    go_wp2
    have hrow := heap_setCell_same _ w.heap.size 2 _ _ (.int .i64 (F1 + 21)) (heap_setCell_same _ w.heap.size 1 _ _ (.int .i64 m) (heap_setCell_same w2 w.heap.size 0 _ _ (.int .i64 y) YR.out))
    refine bodyPost_ret (results_nth rfl rfl hrow) rfl ?_
    exact ⟨by rw [HRV.out, if_pos (by have := HLE.out; omega)], ((YB.out.setCell (p := ⟨w.heap.size, 0, none⟩) (by simp) _).setCell (p := ⟨w.heap.size, 1, none⟩) (by simp) _).setCell (p := ⟨w.heap.size, 2, none⟩) (by simp) _⟩
  · rw [if_neg hle]
    have HLE := Lib.hid hle
    clear hle
    go_wp2
    have hrow := heap_setCell_same _ w.heap.size 2 _ _ (.int .i64 0) (heap_setCell_same _ w.heap.size 1 _ _ (.int .i64 0) (heap_setCell_same w2 w.heap.size 0 _ _ (.int .i64 0) YR.out))
    refine bodyPost_ret (results_nth rfl rfl hrow) rfl ?_
    exact ⟨by rw [HRV.out, if_neg (by have := HLE.out; omega)], ((YB.out.setCell (p := ⟨w.heap.size, 0, none⟩) (by simp) _).setCell (p := ⟨w.heap.size, 1, none⟩) (by simp) _).setCell (p := ⟨w.heap.size, 2, none⟩) (by simp) _⟩
set_option maxRecDepth 100000 in
set_option maxHeartbeats 4000000 in
theorem nth_5 (y m wd : Int) (hm : May y m 1) (hw1 : 1 ≤ wd) (hw7 : wd ≤ 7) (w : World) (hT : Tabs w) :
    Calls Tryd.prog 93 #[.int .i64 y, .int .i64 m, .int .i64 wd, .int .i64 5] w fun e w' => e = .returned (if nthD y m wd 5 ≤ dlen y m then .tuple #[dateV y m (nthD y m wd 5), .int .i64 0] else .tuple #[dateV 0 0 0, .int .i64 60]) ∧ Below w.heap.size w w' := by
  have hb0 := ((Below.refl _ w).alloc (Nat.le_refl _) (.cells #[.int .i64 0, .int .i64 0, .int .i64 0] 110)).alloc (by simp) (.cells #[.int .i64 y, .int .i64 m, .int .i64 1] 110)
  have hr := heap_old (heap_alloc_new w (.cells #[.int .i64 0, .int .i64 0, .int .i64 0] 110)) (.cells #[.int .i64 y, .int .i64 m, .int .i64 1] 110)
  have hr2 := heap_alloc_new (w.alloc (.cells #[.int .i64 0, .int .i64 0, .int .i64 0] 110)) (.cells #[.int .i64 y, .int .i64 m, .int .i64 1] 110)
  rw [World.size_alloc] at hr2
  have HT := Lib.hid (show ∀ X, Below w.heap.size w X → Tabs X from fun X hX => hT.next hX)
  have hday := day_yes y m 1 _ (hT.next hb0) hm
  have hdb := day_bounds hm
  have hdg := dlen_ge (y := y) (m := m) hm.2.2.1 hm.2.2.2.1
  have hdl := dlen_bounds (y := y) (m := m)
  have hwkb := wkday_bounds (dayOf y m 1)
  have hwk := fun X => weekday_any (dayOf y m 1) X
  rw [wkB_in hdb.1 hdb.2] at hwk
  have hdays := fun X hX => days_any y m X hX
  have hF1 : nthF y m wd = 1 + (wd - wkday (dayOf y m 1) + 7) % 7 := rfl
  have hfb := nthF_bounds y m wd
  have hnd : nthD y m wd 5 = nthF y m wd + 28 := by unfold nthD; rw [if_neg (by omega)]; omega
  rw [hnd]
  have hchk := fun d X hX => check_any y m d X hX
  have hmay : ∀ d, 1 ≤ d → mayE y m d = if d ≤ dlen y m then 0 else 60 := fun d hd => by
    unfold mayE
    obtain ⟨q1, q2, q3, q4, q5, q6⟩ := hm
    by_cases c : d ≤ dlen y m
    · rw [if_pos c, if_pos ⟨q1, q2, q3, q4, hd, c⟩]
    · rw [if_neg c, if_neg (fun h => c h.2.2.2.2.2)]
  have hym : 1970 ≤ y ∧ y ≤ 9999 ∧ 1 ≤ m ∧ m ≤ 12 := ⟨hm.1, hm.2.1, hm.2.2.1, hm.2.2.2.1⟩
  generalize dayOf y m 1 = N at *
  generalize wkday N = K at *
  generalize nthF y m wd = F1 at *
  have hdays2 : ∀ (X : World), Tabs X → Calls Tryd.prog 84 #[.int .i64 y, .int .i64 m] X fun e w' => e = .returned (.int .i64 (dlen y m)) ∧ X = w' := hdays
  generalize dlen y m = L at *
  have hdn : 1 ≤ F1 + 28 ∧ F1 + 28 ≤ 60 := by omega
  have hchk2 := hchk (F1 + 28)
  rw [hmay (F1 + 28) hdn.1] at hchk2
  have DAY := Lib.hid hday
  have WK := Lib.hid hwk
  have DAYS := Lib.hid hdays2
  have CHK := Lib.hid hchk2
  have HB0 := Lib.hid hb0
  have HR0 := Lib.hid hr
  have HD0 := Lib.hid hr2
  have HF1 := Lib.hid hF1
  obtain ⟨RV, hRV⟩ : ∃ v, v = (if F1 + 28 ≤ L then Value.tuple #[dateV y m (F1 + 28), .int .i64 0] else Value.tuple #[dateV 0 0 0, .int .i64 60]) := ⟨_, rfl⟩
  rw [← hRV]
  have HRV := Lib.hid hRV
  clear hb0 hr hr2 hday hwk hdays hdays2 hchk hchk2 hmay hT hm hF1 hnd hRV
  go_enter Tryd.func93, Tryd.ntmps93
  go_wp2_with fail
  refine DAY.out.mono ?_
  rintro e w1 ⟨rfl, hB1⟩
  have hr1 := (hB1.block w.heap.size (by simp; omega)).trans HR0.out
  have hd1 := (hB1.block (w.heap.size + 1) (by simp)).trans HD0.out
  have HB1 := Lib.hid (HB0.out.trans (hB1.mono (by simp; omega)))
  have c2 : w1.cell? ⟨w.heap.size + 1, 2, none⟩ = some (.int .i64 1) := cell_of_row w1 _ 2 _ _ _ hd1
  have fz := frozen_of_row w1 (w.heap.size + 1) 2 _ _ hd1
  have HR1 := Lib.hid hr1
  have HD1 := Lib.hid hd1
  clear hB1 hr1 hd1 DAY HB0 HR0 HD0
  go_wp2_with fail
  have g1 : IntKind.i64.wrap (wd - K) = wd - K := by simp only [IntKind.wrap_i64, wrap64]; omega
  have g2 : IntKind.i64.wrap (wd - K + 7) = wd - K + 7 := by simp only [IntKind.wrap_i64, wrap64]; omega
  have g3 : (wd - K + 7).tmod 7 = (wd - K + 7) % 7 := Int.tmod_eq_emod_of_nonneg (by omega)
  have g4 : IntKind.i64.wrap (1 + (wd - K + 7) % 7) = F1 := by rw [HF1.out]; simp only [IntKind.wrap_i64, wrap64]; omega
  have G1 := Lib.hid g1
  have G2 := Lib.hid g2
  have G3 := Lib.hid g3
  have G4 := Lib.hid g4
  clear g1 g2 g3 g4
  have hmx : Tryd.prog.follows .mixedOrders = true := by kernel_rfl
  refine wp_region_still_tail 10 hmx (by kernel_rfl) ?_
  change wpStill _ _ w1.drew _ _ _
  simp only [List.take_succ_cons, List.take_zero, List.drop_succ_cons, List.drop_zero]
  have c2d : w1.drew.cell? ⟨w.heap.size + 1, 2, none⟩ = some (.int .i64 1) := c2
  have fzd : w1.drew.frozen? ⟨w.heap.size + 1, 2, none⟩ = false := fz
  still_step
  still_step
  still_step
  still_step
  still_call ((WK.out w1.drew).mono fun _ _ h => ⟨h.1, h.2.symm⟩)
  repeat still_step
  refine wpStill_nil ?_
  change wpList _ _ _ _ _ w1.drew
  rw [G1.out, G2.out, G3.out, G4.out]
  have xr : w1.drew.heap[w.heap.size]? = some (.cells #[.int .i64 0, .int .i64 0, .int .i64 0] 110 (0, 0)) := HR1.out
  have xd : w1.drew.heap[w.heap.size + 1]? = some (.cells #[.int .i64 y, .int .i64 m, .int .i64 1] 110 (0, 0)) := HD1.out
  have xb : Below w.heap.size w w1.drew := HB1.out.drew
  generalize w1.drew = X at *
  have d0 : X.cell? ⟨w.heap.size + 1, 0, none⟩ = some (.int .i64 y) := cell_of_row X _ 0 _ _ _ xd
  have d1 : X.cell? ⟨w.heap.size + 1, 1, none⟩ = some (.int .i64 m) := cell_of_row X _ 1 _ _ _ xd
  have XR := Lib.hid xr
  have XD := Lib.hid xd
  have XB := Lib.hid xb
  clear xr xd xb c2 fz HR1 HD1 HB1 G1 G2 G3 G4
  have hA : ((X.setCell ⟨w.heap.size + 1, 2, none⟩ (.int .i64 F1)).setCell ⟨w.heap.size + 1, 2, none⟩ (.int .i64 (F1 + 28))).cell? ⟨w.heap.size + 1, 2, none⟩ = some (.int .i64 (F1 + 28)) :=
    World.cell?_setCell_same _ _ _ (World.cell?_setCell_same _ _ _ c2d)
  have hY : Below w.heap.size w ((X.setCell ⟨w.heap.size + 1, 2, none⟩ (.int .i64 F1)).setCell ⟨w.heap.size + 1, 2, none⟩ (.int .i64 (F1 + 28))) := (XB.out.setCell (p := ⟨w.heap.size + 1, 2, none⟩) (by simp) _).setCell (p := ⟨w.heap.size + 1, 2, none⟩) (by simp) _
  have hYr := (heap_setCell_other (X.setCell ⟨w.heap.size + 1, 2, none⟩ (.int .i64 F1)) ⟨w.heap.size + 1, 2, none⟩ w.heap.size (.int .i64 (F1 + 28)) (by simp)).trans ((heap_setCell_other X ⟨w.heap.size + 1, 2, none⟩ w.heap.size (.int .i64 F1) (by simp)).trans XR.out)
  have hYd := heap_setCell_same _ (w.heap.size + 1) 2 _ _ (.int .i64 (F1 + 28)) (heap_setCell_same X (w.heap.size + 1) 2 _ _ (.int .i64 F1) XD.out)
  have HY := Lib.hid hY
  have HYR := Lib.hid hYr
  have HYD := Lib.hid hYd
  clear hY hYr hYd
  go_wp2_with fail
  generalize hYY : ((X.setCell ⟨w.heap.size + 1, 2, none⟩ (.int .i64 F1)).setCell ⟨w.heap.size + 1, 2, none⟩ (.int .i64 (F1 + 28))) = Y at *
  refine (CHK.out _ (HT.out _ HY.out)).mono ?_
  rintro e w2 ⟨rfl, hB2⟩
  have hlt : w.heap.size + 1 < Y.heap.size := (Array.getElem?_eq_some_iff.1 HYD.out).1
  have yr := (hB2.block w.heap.size (by omega)).trans HYR.out
  have yd := (hB2.block (w.heap.size + 1) hlt).trans HYD.out
  have yb := HY.out.trans (hB2.mono HY.out.size)
  have r0 : w2.cell? ⟨w.heap.size, 0, none⟩ = some (.int .i64 0) := cell_of_row w2 _ 0 _ _ _ yr
  have r1 : w2.cell? ⟨w.heap.size, 1, none⟩ = some (.int .i64 0) := cell_of_row w2 _ 1 _ _ _ yr
  have r2 : w2.cell? ⟨w.heap.size, 2, none⟩ = some (.int .i64 0) := cell_of_row w2 _ 2 _ _ _ yr
  have f0 := frozen_of_row w2 w.heap.size 0 _ _ yr
  have f1 := frozen_of_row w2 w.heap.size 1 _ _ yr
  have f2 := frozen_of_row w2 w.heap.size 2 _ _ yr
  have e0 : w2.cell? ⟨w.heap.size + 1, 0, none⟩ = some (.int .i64 y) := cell_of_row w2 _ 0 _ _ _ yd
  have e1 : w2.cell? ⟨w.heap.size + 1, 1, none⟩ = some (.int .i64 m) := cell_of_row w2 _ 1 _ _ _ yd
  have e2 : w2.cell? ⟨w.heap.size + 1, 2, none⟩ = some (.int .i64 (F1 + 28)) := cell_of_row w2 _ 2 _ _ _ yd
  have YR := Lib.hid yr
  have YB := Lib.hid yb
  clear hB2 yr yd yb HYR HYD HY CHK hYY d0 d1 c2d fzd hA
  by_cases hle : F1 + 28 ≤ L
  · rw [if_pos hle]
    have HLE := Lib.hid hle
    clear hle
    go_wp2
    have hrow := heap_setCell_same _ w.heap.size 2 _ _ (.int .i64 (F1 + 28)) (heap_setCell_same _ w.heap.size 1 _ _ (.int .i64 m) (heap_setCell_same w2 w.heap.size 0 _ _ (.int .i64 y) YR.out))
    refine bodyPost_ret (results_nth rfl rfl hrow) rfl ?_
    exact ⟨by rw [HRV.out, if_pos (by have := HLE.out; omega)], ((YB.out.setCell (p := ⟨w.heap.size, 0, none⟩) (by simp) _).setCell (p := ⟨w.heap.size, 1, none⟩) (by simp) _).setCell (p := ⟨w.heap.size, 2, none⟩) (by simp) _⟩
  · rw [if_neg hle]
    have HLE := Lib.hid hle
    clear hle
    go_wp2
    have hrow := heap_setCell_same _ w.heap.size 2 _ _ (.int .i64 0) (heap_setCell_same _ w.heap.size 1 _ _ (.int .i64 0) (heap_setCell_same w2 w.heap.size 0 _ _ (.int .i64 0) YR.out))
    refine bodyPost_ret (results_nth rfl rfl hrow) rfl ?_
    exact ⟨by rw [HRV.out, if_neg (by have := HLE.out; omega)], ((YB.out.setCell (p := ⟨w.heap.size, 0, none⟩) (by simp) _).setCell (p := ⟨w.heap.size, 1, none⟩) (by simp) _).setCell (p := ⟨w.heap.size, 2, none⟩) (by simp) _⟩
set_option maxRecDepth 100000 in
set_option maxHeartbeats 4000000 in
theorem nth_last (y m wd : Int) (hm : May y m 1) (hw1 : 1 ≤ wd) (hw7 : wd ≤ 7) (w : World) (hT : Tabs w) :
    Calls Tryd.prog 93 #[.int .i64 y, .int .i64 m, .int .i64 wd, .int .i64 (-1)] w fun e w' => e = .returned (if nthD y m wd (-1) ≤ dlen y m then .tuple #[dateV y m (nthD y m wd (-1)), .int .i64 0] else .tuple #[dateV 0 0 0, .int .i64 60]) ∧ Below w.heap.size w w' := by
  have hb0 := ((Below.refl _ w).alloc (Nat.le_refl _) (.cells #[.int .i64 0, .int .i64 0, .int .i64 0] 110)).alloc (by simp) (.cells #[.int .i64 y, .int .i64 m, .int .i64 1] 110)
  have hr := heap_old (heap_alloc_new w (.cells #[.int .i64 0, .int .i64 0, .int .i64 0] 110)) (.cells #[.int .i64 y, .int .i64 m, .int .i64 1] 110)
  have hr2 := heap_alloc_new (w.alloc (.cells #[.int .i64 0, .int .i64 0, .int .i64 0] 110)) (.cells #[.int .i64 y, .int .i64 m, .int .i64 1] 110)
  rw [World.size_alloc] at hr2
  have HT := Lib.hid (show ∀ X, Below w.heap.size w X → Tabs X from fun X hX => hT.next hX)
  have hday := day_yes y m 1 _ (hT.next hb0) hm
  have hdb := day_bounds hm
  have hdg := dlen_ge (y := y) (m := m) hm.2.2.1 hm.2.2.2.1
  have hdl := dlen_bounds (y := y) (m := m)
  have hwkb := wkday_bounds (dayOf y m 1)
  have hwk := fun X => weekday_any (dayOf y m 1) X
  rw [wkB_in hdb.1 hdb.2] at hwk
  have hdays := fun X hX => days_any y m X hX
  have hF1 : nthF y m wd = 1 + (wd - wkday (dayOf y m 1) + 7) % 7 := rfl
  have hfb := nthF_bounds y m wd
  have hnd : nthD y m wd (-1) = nthF y m wd + (dlen y m - nthF y m wd) / 7 * 7 := by unfold nthD; rw [if_pos rfl]
  rw [hnd]
  have hchk := fun d X hX => check_any y m d X hX
  have hmay : ∀ d, 1 ≤ d → mayE y m d = if d ≤ dlen y m then 0 else 60 := fun d hd => by
    unfold mayE
    obtain ⟨q1, q2, q3, q4, q5, q6⟩ := hm
    by_cases c : d ≤ dlen y m
    · rw [if_pos c, if_pos ⟨q1, q2, q3, q4, hd, c⟩]
    · rw [if_neg c, if_neg (fun h => c h.2.2.2.2.2)]
  have hym : 1970 ≤ y ∧ y ≤ 9999 ∧ 1 ≤ m ∧ m ≤ 12 := ⟨hm.1, hm.2.1, hm.2.2.1, hm.2.2.2.1⟩
  generalize dayOf y m 1 = N at *
  generalize wkday N = K at *
  generalize nthF y m wd = F1 at *
  have hdays2 : ∀ (X : World), Tabs X → Calls Tryd.prog 84 #[.int .i64 y, .int .i64 m] X fun e w' => e = .returned (.int .i64 (dlen y m)) ∧ X = w' := hdays
  generalize dlen y m = L at *
  have hdn : 1 ≤ F1 + (L - F1) / 7 * 7 ∧ F1 + (L - F1) / 7 * 7 ≤ 60 := by omega
  have hchk2 := hchk (F1 + (L - F1) / 7 * 7)
  rw [hmay (F1 + (L - F1) / 7 * 7) hdn.1] at hchk2
  have DAY := Lib.hid hday
  have WK := Lib.hid hwk
  have DAYS := Lib.hid hdays2
  have CHK := Lib.hid hchk2
  have HB0 := Lib.hid hb0
  have HR0 := Lib.hid hr
  have HD0 := Lib.hid hr2
  have HF1 := Lib.hid hF1
  obtain ⟨RV, hRV⟩ : ∃ v, v = (if F1 + (L - F1) / 7 * 7 ≤ L then Value.tuple #[dateV y m (F1 + (L - F1) / 7 * 7), .int .i64 0] else Value.tuple #[dateV 0 0 0, .int .i64 60]) := ⟨_, rfl⟩
  rw [← hRV]
  have HRV := Lib.hid hRV
  clear hb0 hr hr2 hday hwk hdays hdays2 hchk hchk2 hmay hT hm hF1 hnd hRV
  go_enter Tryd.func93, Tryd.ntmps93
  go_wp2_with fail
  refine DAY.out.mono ?_
  rintro e w1 ⟨rfl, hB1⟩
  have hr1 := (hB1.block w.heap.size (by simp; omega)).trans HR0.out
  have hd1 := (hB1.block (w.heap.size + 1) (by simp)).trans HD0.out
  have HB1 := Lib.hid (HB0.out.trans (hB1.mono (by simp; omega)))
  have c2 : w1.cell? ⟨w.heap.size + 1, 2, none⟩ = some (.int .i64 1) := cell_of_row w1 _ 2 _ _ _ hd1
  have fz := frozen_of_row w1 (w.heap.size + 1) 2 _ _ hd1
  have HR1 := Lib.hid hr1
  have HD1 := Lib.hid hd1
  clear hB1 hr1 hd1 DAY HB0 HR0 HD0
  go_wp2_with fail
  have g1 : IntKind.i64.wrap (wd - K) = wd - K := by simp only [IntKind.wrap_i64, wrap64]; omega
  have g2 : IntKind.i64.wrap (wd - K + 7) = wd - K + 7 := by simp only [IntKind.wrap_i64, wrap64]; omega
  have g3 : (wd - K + 7).tmod 7 = (wd - K + 7) % 7 := Int.tmod_eq_emod_of_nonneg (by omega)
  have g4 : IntKind.i64.wrap (1 + (wd - K + 7) % 7) = F1 := by rw [HF1.out]; simp only [IntKind.wrap_i64, wrap64]; omega
  have G1 := Lib.hid g1
  have G2 := Lib.hid g2
  have G3 := Lib.hid g3
  have G4 := Lib.hid g4
  clear g1 g2 g3 g4
  have hmx : Tryd.prog.follows .mixedOrders = true := by kernel_rfl
  refine wp_region_still_tail 10 hmx (by kernel_rfl) ?_
  change wpStill _ _ w1.drew _ _ _
  simp only [List.take_succ_cons, List.take_zero, List.drop_succ_cons, List.drop_zero]
  have c2d : w1.drew.cell? ⟨w.heap.size + 1, 2, none⟩ = some (.int .i64 1) := c2
  have fzd : w1.drew.frozen? ⟨w.heap.size + 1, 2, none⟩ = false := fz
  still_step
  still_step
  still_step
  still_step
  still_call ((WK.out w1.drew).mono fun _ _ h => ⟨h.1, h.2.symm⟩)
  repeat still_step
  refine wpStill_nil ?_
  change wpList _ _ _ _ _ w1.drew
  rw [G1.out, G2.out, G3.out, G4.out]
  have xr : w1.drew.heap[w.heap.size]? = some (.cells #[.int .i64 0, .int .i64 0, .int .i64 0] 110 (0, 0)) := HR1.out
  have xd : w1.drew.heap[w.heap.size + 1]? = some (.cells #[.int .i64 y, .int .i64 m, .int .i64 1] 110 (0, 0)) := HD1.out
  have xb : Below w.heap.size w w1.drew := HB1.out.drew
  generalize w1.drew = X at *
  have d0 : X.cell? ⟨w.heap.size + 1, 0, none⟩ = some (.int .i64 y) := cell_of_row X _ 0 _ _ _ xd
  have d1 : X.cell? ⟨w.heap.size + 1, 1, none⟩ = some (.int .i64 m) := cell_of_row X _ 1 _ _ _ xd
  have XR := Lib.hid xr
  have XD := Lib.hid xd
  have XB := Lib.hid xb
  clear xr xd xb c2 fz HR1 HD1 HB1 G1 G2 G3 G4
  have mD : X.setCell ⟨w.heap.size + 1, 2, none⟩ (.int .i64 F1) = X.setCell ⟨w.heap.size + 1, 2, none⟩ (.int .i64 F1) := rfl
  go_wp2_with fail
  have z0 : (X.setCell ⟨w.heap.size + 1, 2, none⟩ (.int .i64 F1)).cell? ⟨w.heap.size + 1, 2, none⟩ = some (.int .i64 F1) := World.cell?_setCell_same _ _ _ c2d
  have z1 : (X.setCell ⟨w.heap.size + 1, 2, none⟩ (.int .i64 F1)).frozen? ⟨w.heap.size + 1, 2, none⟩ = false := (World.frozen?_setCell _ _ _ _).trans fzd
  have zB : Below w.heap.size w (X.setCell ⟨w.heap.size + 1, 2, none⟩ (.int .i64 F1)) := XB.out.setCell (p := ⟨w.heap.size + 1, 2, none⟩) (by simp) _
  have zr := (heap_setCell_other X ⟨w.heap.size + 1, 2, none⟩ w.heap.size (.int .i64 F1) (by simp)).trans XR.out
  have zd := heap_setCell_same X (w.heap.size + 1) 2 _ _ (.int .i64 F1) XD.out
  generalize (X.setCell ⟨w.heap.size + 1, 2, none⟩ (.int .i64 F1)) = Z at *
  have g5 : IntKind.i64.wrap (L - F1) = L - F1 := by simp only [IntKind.wrap_i64, wrap64]; omega
  have g6 : IntKind.i64.wrap ((L - F1) / 7 * 7) = (L - F1) / 7 * 7 := by simp only [IntKind.wrap_i64, wrap64]; omega
  have g7 : IntKind.i64.wrap (F1 + (L - F1) / 7 * 7) = F1 + (L - F1) / 7 * 7 := by simp only [IntKind.wrap_i64, wrap64]; omega
  have g8 : IntKind.i64.wrap ((L - F1).tdiv 7) = (L - F1) / 7 := by rw [Int.tdiv_eq_ediv_of_nonneg (by omega)]; simp only [IntKind.wrap_i64, wrap64]; omega
  have g9 : (L - F1).tdiv 7 = (L - F1) / 7 := Int.tdiv_eq_ediv_of_nonneg (by omega)
  have G5 := Lib.hid g5
  have G6 := Lib.hid g6
  have G7 := Lib.hid g7
  have G8 := Lib.hid g8
  have G9 := Lib.hid g9
  have ZB := Lib.hid zB
  have ZR := Lib.hid zr
  have ZD := Lib.hid zd
  clear g5 g6 g7 g8 g9 zB zr zd XR XD XB d0 d1 c2d fzd mD
  refine wp_region_still_tail 12 hmx (by kernel_rfl) ?_
  change wpStill _ _ Z.drew _ _ _
  simp only [List.take_succ_cons, List.take_zero, List.drop_succ_cons, List.drop_zero]
  have z0d : Z.drew.cell? ⟨w.heap.size + 1, 2, none⟩ = some (.int .i64 F1) := z0
  have z1d : Z.drew.frozen? ⟨w.heap.size + 1, 2, none⟩ = false := z1
  still_step
  still_step
  still_step
  still_step
  still_call ((DAYS.out Z.drew (HT.out _ ZB.out.drew)).mono fun _ _ h => ⟨h.1, h.2.symm⟩)
  repeat still_step
  refine wpStill_nil ?_
  change wpList _ _ _ _ _ Z.drew
  simp only [G5.out, G9.out, G8.out, G6.out, G7.out]
  have hA : (Z.drew.setCell ⟨w.heap.size + 1, 2, none⟩ (.int .i64 (F1 + (L - F1) / 7 * 7))).cell? ⟨w.heap.size + 1, 2, none⟩ = some (.int .i64 (F1 + (L - F1) / 7 * 7)) := World.cell?_setCell_same _ _ _ z0d
  have d0 : Z.drew.cell? ⟨w.heap.size + 1, 0, none⟩ = some (.int .i64 y) := cell_of_row Z.drew _ 0 _ _ _ ZD.out
  have d1 : Z.drew.cell? ⟨w.heap.size + 1, 1, none⟩ = some (.int .i64 m) := cell_of_row Z.drew _ 1 _ _ _ ZD.out
  have hY : Below w.heap.size w (Z.drew.setCell ⟨w.heap.size + 1, 2, none⟩ (.int .i64 (F1 + (L - F1) / 7 * 7))) := ZB.out.drew.setCell (p := ⟨w.heap.size + 1, 2, none⟩) (by simp) _
  have hYr := (heap_setCell_other Z.drew ⟨w.heap.size + 1, 2, none⟩ w.heap.size (.int .i64 (F1 + (L - F1) / 7 * 7)) (by simp)).trans ZR.out
  have hYd := heap_setCell_same Z.drew (w.heap.size + 1) 2 _ _ (.int .i64 (F1 + (L - F1) / 7 * 7)) ZD.out
  have HY := Lib.hid hY
  have HYR := Lib.hid hYr
  have HYD := Lib.hid hYd
  clear hY hYr hYd z0 z1 G5 G6 G7 G8 G9
  generalize Z.drew = U at *
  go_wp2_with fail
  generalize hYY : (U.setCell ⟨w.heap.size + 1, 2, none⟩ (.int .i64 (F1 + (L - F1) / 7 * 7))) = Y at *
  refine (CHK.out _ (HT.out _ HY.out)).mono ?_
  have c2d : True := trivial
  have fzd : True := trivial
  rintro e w2 ⟨rfl, hB2⟩
  have hlt : w.heap.size + 1 < Y.heap.size := (Array.getElem?_eq_some_iff.1 HYD.out).1
  have yr := (hB2.block w.heap.size (by omega)).trans HYR.out
  have yd := (hB2.block (w.heap.size + 1) hlt).trans HYD.out
  have yb := HY.out.trans (hB2.mono HY.out.size)
  have r0 : w2.cell? ⟨w.heap.size, 0, none⟩ = some (.int .i64 0) := cell_of_row w2 _ 0 _ _ _ yr
  have r1 : w2.cell? ⟨w.heap.size, 1, none⟩ = some (.int .i64 0) := cell_of_row w2 _ 1 _ _ _ yr
  have r2 : w2.cell? ⟨w.heap.size, 2, none⟩ = some (.int .i64 0) := cell_of_row w2 _ 2 _ _ _ yr
  have f0 := frozen_of_row w2 w.heap.size 0 _ _ yr
  have f1 := frozen_of_row w2 w.heap.size 1 _ _ yr
  have f2 := frozen_of_row w2 w.heap.size 2 _ _ yr
  have e0 : w2.cell? ⟨w.heap.size + 1, 0, none⟩ = some (.int .i64 y) := cell_of_row w2 _ 0 _ _ _ yd
  have e1 : w2.cell? ⟨w.heap.size + 1, 1, none⟩ = some (.int .i64 m) := cell_of_row w2 _ 1 _ _ _ yd
  have e2 : w2.cell? ⟨w.heap.size + 1, 2, none⟩ = some (.int .i64 (F1 + (L - F1) / 7 * 7)) := cell_of_row w2 _ 2 _ _ _ yd
  have YR := Lib.hid yr
  have YB := Lib.hid yb
  clear hB2 yr yd yb HYR HYD HY CHK hYY d0 d1 c2d fzd
  by_cases hle : F1 + (L - F1) / 7 * 7 ≤ L
  · rw [if_pos hle]
    have HLE := Lib.hid hle
    clear hle
    go_wp2
    have hrow := heap_setCell_same _ w.heap.size 2 _ _ (.int .i64 (F1 + (L - F1) / 7 * 7)) (heap_setCell_same _ w.heap.size 1 _ _ (.int .i64 m) (heap_setCell_same w2 w.heap.size 0 _ _ (.int .i64 y) YR.out))
    refine bodyPost_ret (results_nth rfl rfl hrow) rfl ?_
    exact ⟨by rw [HRV.out, if_pos (by have := HLE.out; omega)], ((YB.out.setCell (p := ⟨w.heap.size, 0, none⟩) (by simp) _).setCell (p := ⟨w.heap.size, 1, none⟩) (by simp) _).setCell (p := ⟨w.heap.size, 2, none⟩) (by simp) _⟩
  · rw [if_neg hle]
    have HLE := Lib.hid hle
    clear hle
    go_wp2
    have hrow := heap_setCell_same _ w.heap.size 2 _ _ (.int .i64 0) (heap_setCell_same _ w.heap.size 1 _ _ (.int .i64 0) (heap_setCell_same w2 w.heap.size 0 _ _ (.int .i64 0) YR.out))
    refine bodyPost_ret (results_nth rfl rfl hrow) rfl ?_
    exact ⟨by rw [HRV.out, if_neg (by have := HLE.out; omega)], ((YB.out.setCell (p := ⟨w.heap.size, 0, none⟩) (by simp) _).setCell (p := ⟨w.heap.size, 1, none⟩) (by simp) _).setCell (p := ⟨w.heap.size, 2, none⟩) (by simp) _⟩
theorem nth_yes (y m wd n : Int) (h : NthIs y m wd n) (w : World) (hT : Tabs w) :
    Calls Tryd.prog 93 #[.int .i64 y, .int .i64 m, .int .i64 wd, .int .i64 n] w fun e w' => e = .returned (.tuple #[dateV y m (nthD y m wd n), .int .i64 0]) ∧ Below w.heap.size w w' := by
  obtain ⟨hm, ⟨h1, h2⟩, hn⟩ := h
  rcases hn with rfl | ⟨h3, h4, hle⟩
  · have hfb := nthF_bounds y m wd
    have hdg := dlen_ge (y := y) (m := m) hm.2.2.1 hm.2.2.2.1
    have hle : nthD y m wd (-1) ≤ dlen y m := by unfold nthD; rw [if_pos rfl]; omega
    have := nth_last y m wd hm h1 h2 w hT
    rw [if_pos hle] at this
    exact this
  · have hc : n = 1 ∨ n = 2 ∨ n = 3 ∨ n = 4 ∨ n = 5 := by omega
    rcases hc with rfl | rfl | rfl | rfl | rfl
    · have := nth_1 y m wd hm h1 h2 w hT
      rw [if_pos hle] at this; exact this
    · have := nth_2 y m wd hm h1 h2 w hT
      rw [if_pos hle] at this; exact this
    · have := nth_3 y m wd hm h1 h2 w hT
      rw [if_pos hle] at this; exact this
    · have := nth_4 y m wd hm h1 h2 w hT
      rw [if_pos hle] at this; exact this
    · have := nth_5 y m wd hm h1 h2 w hT
      rw [if_pos hle] at this; exact this
theorem nth_no (y m wd n : Int) (h : ¬ NthIs y m wd n) (w : World) (hT : Tabs w) :
    Calls Tryd.prog 93 #[.int .i64 y, .int .i64 m, .int .i64 wd, .int .i64 n] w fun e w' => e = .returned (.tuple #[dateV 0 0 0, .int .i64 60]) ∧ Below w.heap.size w w' := by
  by_cases c : May y m 1 ∧ 1 ≤ wd ∧ wd ≤ 7
  · obtain ⟨hm, h1, h2⟩ := c
    by_cases hn : n = -1 ∨ (1 ≤ n ∧ n ≤ 5)
    · rcases hn with rfl | ⟨h3, h4⟩
      · exact absurd ⟨hm, ⟨h1, h2⟩, .inl rfl⟩ h
      · have hle : ¬ nthD y m wd n ≤ dlen y m := fun hc => h ⟨hm, ⟨h1, h2⟩, .inr ⟨h3, h4, hc⟩⟩
        have hc : n = 1 ∨ n = 2 ∨ n = 3 ∨ n = 4 ∨ n = 5 := by omega
        rcases hc with rfl | rfl | rfl | rfl | rfl
        · have := nth_1 y m wd hm h1 h2 w hT
          rw [if_neg hle] at this; exact this
        · have := nth_2 y m wd hm h1 h2 w hT
          rw [if_neg hle] at this; exact this
        · have := nth_3 y m wd hm h1 h2 w hT
          rw [if_neg hle] at this; exact this
        · have := nth_4 y m wd hm h1 h2 w hT
          rw [if_neg hle] at this; exact this
        · have := nth_5 y m wd hm h1 h2 w hT
          rw [if_neg hle] at this; exact this
    · exact nth_def y m wd n hn hm h1 h2 w hT
  · exact nth_bad y m wd n c w hT
end Go.Proofs.YtbffmobjiiicoaaDoor
end
section
/- Contract of the document's function Nth. -/
set_option linter.unusedVariables false
set_option linter.unusedSimpArgs false
namespace Go.Proofs.YtbffmobjiiicoaaDoor
open Go.RowKit Go.Shelf
theorem nth_wk (y m wd : Int) (h1 : 1 ≤ wd) (h2 : wd ≤ 7) (k : Int) : wkday (dayOf y m (nthF y m wd + 7 * (k - 1))) = wd := by
  unfold nthF wkday dayOf
  omega
theorem nthD_eq (y m wd k : Int) (h : 1 ≤ k) : nthD y m wd k = nthF y m wd + 7 * (k - 1) := by
  unfold nthD; rw [if_neg (by omega)]; omega
theorem dlen_31 {y m : Int} : dlen y m ≤ 31 := dlen_bounds.2
def metB (F d : Int) : Int := (d + 6 - F) / 7
def lastB (F d : Int) : Int := if metB F d = 0 then 0 else F + 7 * (metB F d - 1)
theorem wk_iff (y m wd d : Int) (h1 : 1 ≤ wd) (h2 : wd ≤ 7) : wkday (dayOf y m d) = wd ↔ (d - nthF y m wd) % 7 = 0 := by
  unfold nthF wkday dayOf
  omega
end Go.Proofs.YtbffmobjiiicoaaDoor
end
