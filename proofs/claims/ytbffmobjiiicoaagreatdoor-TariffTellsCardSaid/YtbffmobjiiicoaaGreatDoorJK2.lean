/- Joined: KNext KOpen KTime KRef KRef2 KDays KNth KRNth. -/
import Derived.Test.YtbffmobjiiicoaaGreatDoorJK1
import Derived.Deep.QuietTactic
import Derived.OpenShut
import Derived.ChangeArms
import Derived.WideShapes
import Derived.ShutString
import Derived.ChangeOld
import Derived.Stop.Joined
import Derived.Deep.Strs
import Derived.Lib.SmallJoins
import Derived.StillTailTactics
section
/- The walk of the statement CivilNext; the example that is alive. -/
set_option linter.unusedVariables false
set_option linter.unusedSimpArgs false
namespace Go.Proofs.YtbffmobjiiicoaaGreatDoor
open Go.RowKit Go.Shelf
theorem wkB_in {n : Int} (h0 : 0 ≤ n) (h1 : n ≤ 2932896) : wkB n = wkday n := by unfold wkB; rw [if_pos ⟨h0, h1⟩]
/-- A day's date, told. -/
theorem of_is (n y m d : Int) (h : IsDate n y m d) (w : World) (hT : Tabs w) :
    Calls Tryz.prog 79 #[.int .i64 n] w fun e w' => e = .returned (.tuple #[dateV y m d, .int .i64 0]) ∧ Below w.heap.size w w' := by
  have hb := day_bounds h.1
  rw [← h.2] at hb
  refine (of_yes n w hT hb.1 hb.2).mono ?_
  rintro e w' ⟨⟨y', m', d', h', rfl⟩, hB⟩
  obtain ⟨rfl, rfl, rfl⟩ := h.unique h'
  exact ⟨rfl, hB⟩
theorem day_is (n y m d : Int) (h : IsDate n y m d) (w : World) (hT : Tabs w) :
    Calls Tryz.prog 53 #[dateV y m d] w fun e w' => e = .returned (.tuple #[.int .i64 n, .int .i64 0]) ∧ Below w.heap.size w w' := by
  rw [h.2]; exact day_yes y m d w hT h.1
theorem wk_next (n : Int) : wkday n % 7 + 1 = wkday (n + 1) := by unfold wkday; omega
theorem wk_week (n : Int) : wkday (n + 7) = wkday n := by unfold wkday; omega
end Go.Proofs.YtbffmobjiiicoaaGreatDoor
end
section
/- Dates and moments that came in. -/
namespace Go.Proofs.YtbffmobjiiicoaaGreatDoor
open Go.ChangeShapes Go.WideShapes Go.RowKit
def In64 (n : Int) : Prop := -9223372036854775808 ≤ n ∧ n ≤ 9223372036854775807
theorem in64_of {n : Int} (h : (Lit.int .i64 n).wf = true) : In64 n := by
  simp [Lit.wf, IntKind.min, IntKind.max, IntKind.bits, IntKind.signed] at h; exact h
theorem int_cell {H : Type} {enc : TypeId × Value → H} {W : World} {base : Nat} {sp : Nat → Bool} {held : Bool} {fuel : Nat} {c : Value} {x : DataW H × List MemPlace}
    (h : DataW.trod enc Tryz.prog W base sp held fuel 3 [c] = some x) : ∃ n : Int, c = .int .i64 n ∧ In64 n := by
  obtain ⟨n, e, _, hw⟩ := DataW.trod_int Tryz.underlying3 h
  exact ⟨n, by simpa using e, in64_of hw⟩
theorem cells6 {cs : Array Value} (h : cs.size = 6) : ∃ a b c d e f, cs = #[a, b, c, d, e, f] := by
  obtain ⟨l⟩ := cs
  match l, h with
  | [a, b, c, d, e, f], _ => exact ⟨a, b, c, d, e, f, rfl⟩
theorem cells3 {cs : Array Value} (h : cs.size = 3) : ∃ a b c, cs = #[a, b, c] := by
  obtain ⟨l⟩ := cs
  match l, h with
  | [a, b, c], _ => exact ⟨a, b, c, rfl⟩
set_option maxRecDepth 100000 in
theorem date_cells {H : Type} {enc : TypeId × Value → H} {W : World} {base : Nat} {sp : Nat → Bool} {held : Bool} {fuel : Nat} {a b c : Value} {x : DataW H × List MemPlace}
    (h : DataW.trod enc Tryz.prog W base sp held fuel 111 [a, b, c] = some x) : ∃ y m d : Int, a = .int .i64 y ∧ b = .int .i64 m ∧ c = .int .i64 d ∧ In64 y ∧ In64 m ∧ In64 d := by
  have k1 : Tryz.prog.cellsOf 3 = 1 := by kernel_rfl
  obtain ⟨y0, y1, y2, n, _, _, h0, h1, h2⟩ := Go.Deep.trod_struct3 Tryz.underlying111 h
  simp only [k1, List.drop, List.take] at h0 h1 h2
  obtain ⟨y, rfl, hy⟩ := int_cell h0
  obtain ⟨m, rfl, hm⟩ := int_cell h1
  obtain ⟨d, rfl, hd⟩ := int_cell h2
  exact ⟨y, m, d, rfl, rfl, rfl, hy, hm, hd⟩
set_option maxRecDepth 100000 in
theorem open_date {H : Type} {enc : TypeId × Value → H} {W : World} {base base2 : Nat} {sp : Nat → Bool} {held : Bool} {r : Reach} {v : Value} {d : DataW H} {p : List MemPlace}
    (hv : Value.okWide Tryz.prog W r base 111 v) (h : DataW.Trod enc Tryz.prog W base2 sp held 111 v d p) : ∃ y m d : Int, v = dateV y m d ∧ (In64 y ∧ In64 m ∧ In64 d) := by
  obtain ⟨cs, rfl, hsz⟩ := okWide_struct Tryz.underlying111 hv
  obtain ⟨a, b, c, rfl⟩ := cells3 (hsz.trans (show Tryz.prog.cellsOf 111 = 3 by kernel_rfl))
  obtain ⟨fuel, hf⟩ := h
  obtain ⟨y, m, d, rfl, rfl, rfl, h⟩ := date_cells (show DataW.trod enc Tryz.prog W base2 sp held fuel 111 [a, b, c] = some _ by simpa [Value.cells] using hf)
  exact ⟨y, m, d, rfl, h⟩
abbrev momV (y m d h mi s : Int) : Value := .agg #[.int .i64 y, .int .i64 m, .int .i64 d, .int .i64 h, .int .i64 mi, .int .i64 s]
set_option maxRecDepth 100000 in
theorem open_moment {H : Type} {enc : TypeId × Value → H} {W : World} {base base2 : Nat} {sp : Nat → Bool} {held : Bool} {r : Reach} {v : Value} {d : DataW H} {p : List MemPlace}
    (hv : Value.okWide Tryz.prog W r base 113 v) (h : DataW.Trod enc Tryz.prog W base2 sp held 113 v d p) : ∃ y m d h mi s : Int, v = momV y m d h mi s ∧ (In64 y ∧ In64 m ∧ In64 d ∧ In64 h ∧ In64 mi ∧ In64 s) := by
  obtain ⟨cs, rfl, hsz⟩ := okWide_struct Tryz.underlying113 hv
  obtain ⟨a, b, c, e, f, g, rfl⟩ := cells6 (hsz.trans (show Tryz.prog.cellsOf 113 = 6 by kernel_rfl))
  obtain ⟨fuel, hf⟩ := h
  have k1 : Tryz.prog.cellsOf 3 = 1 := by kernel_rfl
  have k3 : Tryz.prog.cellsOf 111 = 3 := by kernel_rfl
  obtain ⟨y0, y1, y2, y3, n, _, _, h0, h1, h2, h3⟩ := Go.Joins.trod_struct4 Tryz.underlying113 (show DataW.trod enc Tryz.prog W base2 sp held fuel 113 [a, b, c, e, f, g] = some _ by simpa [Value.cells] using hf)
  simp only [k3, List.drop, List.take] at h0
  simp only [k1, List.drop, List.take] at h1 h2 h3
  obtain ⟨y, m, d, rfl, rfl, rfl, hy, hm, hd⟩ := date_cells h0
  obtain ⟨h', rfl, hh⟩ := int_cell h1
  obtain ⟨mi, rfl, hmi⟩ := int_cell h2
  obtain ⟨s, rfl, hs⟩ := int_cell h3
  exact ⟨y, m, d, h', mi, s, rfl, hy, hm, hd, hh, hmi, hs⟩
end Go.Proofs.YtbffmobjiiicoaaGreatDoor
end
section
/- Contracts: hasTime, Instant, At. -/
set_option linter.unusedVariables false
set_option linter.unusedSimpArgs false
namespace Go.Proofs.YtbffmobjiiicoaaGreatDoor
open Go.RowKit Go.Shelf
def TimeIs (h mi s : Int) : Prop := (0 ≤ h ∧ h < 24) ∧ (0 ≤ mi ∧ mi < 60) ∧ (0 ≤ s ∧ s < 60)
instance (h mi s : Int) : Decidable (TimeIs h mi s) := by unfold TimeIs; infer_instance
theorem hasTime_any (y m d h mi s : Int) (w : World) :
    Calls Tryz.prog 108 #[momV y m d h mi s] w fun e w' => e = .returned (.bool (decide (TimeIs h mi s))) ∧ Below w.heap.size w w' := by
  unfold TimeIs
  by_cases c1 : 0 ≤ h ∧ h < 24
  · by_cases c2 : 0 ≤ mi ∧ mi < 60
    · have g1 := Lib.hid (show decide (0 ≤ h ∧ h < 24) = true from decide_eq_true c1)
      have g2 := Lib.hid (show decide (0 ≤ mi ∧ mi < 60) = true from decide_eq_true c2)
      rw [show decide ((0 ≤ h ∧ h < 24) ∧ (0 ≤ mi ∧ mi < 60) ∧ 0 ≤ s ∧ s < 60) = decide (0 ≤ s ∧ s < 60) by simp [c1, c2]]
      obtain ⟨b3, hb3⟩ : ∃ b, b = decide (0 ≤ s ∧ s < 60) := ⟨_, rfl⟩
      have g3 := Lib.hid hb3.symm
      rw [← hb3]
      clear c1 c2 hb3
      go_enter Tryz.func108, Tryz.ntmps108
      go_wp2_with (go_at_call 110; refine (isBelow_any _ _ _).mono ?_; rintro e w' ⟨rfl, rfl⟩; first | rw [g1.out] | rw [g2.out] | rw [g3.out])
      go_ret
      exact ⟨rfl, (Below.refl _ w).alloc (Nat.le_refl _) _⟩
    · have g1 := Lib.hid (show decide (0 ≤ h ∧ h < 24) = true from decide_eq_true c1)
      have g2 := Lib.hid (show decide (0 ≤ mi ∧ mi < 60) = false from decide_eq_false c2)
      rw [show decide ((0 ≤ h ∧ h < 24) ∧ (0 ≤ mi ∧ mi < 60) ∧ 0 ≤ s ∧ s < 60) = false from decide_eq_false (by omega)]
      clear c1 c2
      go_enter Tryz.func108, Tryz.ntmps108
      go_wp2_with (go_at_call 110; refine (isBelow_any _ _ _).mono ?_; rintro e w' ⟨rfl, rfl⟩; first | rw [g1.out] | rw [g2.out])
      go_ret
      exact ⟨rfl, (Below.refl _ w).alloc (Nat.le_refl _) _⟩
  · have g1 := Lib.hid (show decide (0 ≤ h ∧ h < 24) = false from decide_eq_false c1)
    rw [show decide ((0 ≤ h ∧ h < 24) ∧ (0 ≤ mi ∧ mi < 60) ∧ 0 ≤ s ∧ s < 60) = false from decide_eq_false (by omega)]
    clear c1
    go_enter Tryz.func108, Tryz.ntmps108
    go_wp2_with (go_at_call 110; refine (isBelow_any _ _ _).mono ?_; rintro e w' ⟨rfl, rfl⟩; rw [g1.out])
    go_ret
    exact ⟨rfl, (Below.refl _ w).alloc (Nat.le_refl _) _⟩
def MomIs (y m d h mi s : Int) : Prop := May y m d ∧ TimeIs h mi s
instance (y m d h mi s : Int) : Decidable (MomIs y m d h mi s) := by unfold MomIs; infer_instance
def secOf (y m d h mi s : Int) : Int := dayOf y m d * 86400 + (h * 3600 + mi * 60 + s)
def instV (y m d h mi s : Int) : Int := if MomIs y m d h mi s then secOf y m d h mi s else 0
def momE (y m d h mi s : Int) : Int := if MomIs y m d h mi s then 0 else 60
theorem instant_any (y m d h mi s : Int) (w : World) (hT : Tabs w) :
    Calls Tryz.prog 105 #[momV y m d h mi s] w fun e w' => e = .returned (.tuple #[.int .i64 (instV y m d h mi s), .int .i64 (momE y m d h mi s)]) ∧ Below w.heap.size w w' := by
  have hb0 := (Below.refl _ w).alloc (Nat.le_refl _) (.cells #[.int .i64 y, .int .i64 m, .int .i64 d, .int .i64 h, .int .i64 mi, .int .i64 s] 113)
  have hr := heap_alloc_new w (.cells #[.int .i64 y, .int .i64 m, .int .i64 d, .int .i64 h, .int .i64 mi, .int .i64 s] 113)
  have hT1 := hT.next hb0
  have HB0 := Lib.hid hb0
  have HR := Lib.hid hr
  have HT1 := Lib.hid hT1
  clear hb0 hr hT hT1
  by_cases c1 : May y m d
  · have hdb := day_bounds c1
    have hcd := day_yes y m d _ HT1.out c1
    obtain ⟨N, hN⟩ : ∃ N, N = dayOf y m d := ⟨_, rfl⟩
    rw [← hN] at hdb hcd
    have HC := Lib.hid hcd
    clear hcd
    by_cases c2 : TimeIs h mi s
    · have hg := Lib.hid (show decide (TimeIs h mi s) = true from decide_eq_true c2)
      unfold instV momE
      rw [if_pos ⟨c1, c2⟩, if_pos ⟨c1, c2⟩]
      unfold secOf
      rw [← hN]
      obtain ⟨⟨t1, t2⟩, ⟨t3, t4⟩, t5, t6⟩ := c2
      clear c1 hN
      go_enter Tryz.func105, Tryz.ntmps105
      go_wp2_with fail
      refine HC.out.mono ?_
      rintro e w1 ⟨rfl, hB1⟩
      have hr1 := (hB1.block w.heap.size (by simp)).trans HR.out
      have HB1 := Lib.hid (HB0.out.trans (hB1.mono (by simp)))
      have a0 : w1.cell? ⟨w.heap.size, 0, none⟩ = some (.int .i64 y) := cell_of_row w1 _ 0 _ _ _ hr1
      have a1 : w1.cell? ⟨w.heap.size, 1, none⟩ = some (.int .i64 m) := cell_of_row w1 _ 1 _ _ _ hr1
      have a2 : w1.cell? ⟨w.heap.size, 2, none⟩ = some (.int .i64 d) := cell_of_row w1 _ 2 _ _ _ hr1
      have a3 : w1.cell? ⟨w.heap.size, 3, none⟩ = some (.int .i64 h) := cell_of_row w1 _ 3 _ _ _ hr1
      have a4 : w1.cell? ⟨w.heap.size, 4, none⟩ = some (.int .i64 mi) := cell_of_row w1 _ 4 _ _ _ hr1
      have a5 : w1.cell? ⟨w.heap.size, 5, none⟩ = some (.int .i64 s) := cell_of_row w1 _ 5 _ _ _ hr1
      have hlt : w.heap.size < w1.heap.size := (Array.getElem?_eq_some_iff.1 hr1).1
      have HR1 := Lib.hid hr1
      clear hB1 hr1 HC
      go_wp2_with fail
      refine (hasTime_any _ _ _ _ _ _ _).mono ?_
      rintro e w2 ⟨rfl, hB2⟩
      rw [hg.out]
      have hr2 := (hB2.block w.heap.size hlt).trans HR1.out
      have HB2 := Lib.hid (HB1.out.trans (hB2.mono HB1.out.size))
      clear a0 a1 a2 a3 a4 a5
      have a3 : w2.cell? ⟨w.heap.size, 3, none⟩ = some (.int .i64 h) := cell_of_row w2 _ 3 _ _ _ hr2
      have a4 : w2.cell? ⟨w.heap.size, 4, none⟩ = some (.int .i64 mi) := cell_of_row w2 _ 4 _ _ _ hr2
      have a5 : w2.cell? ⟨w.heap.size, 5, none⟩ = some (.int .i64 s) := cell_of_row w2 _ 5 _ _ _ hr2
      clear hB2 hr2
      go_wp2
      go_ret2
      exact ⟨rfl, HB2.out⟩
    · have hg := Lib.hid (show decide (TimeIs h mi s) = false from decide_eq_false c2)
      unfold instV momE
      rw [if_neg (fun h => c2 h.2), if_neg (fun h => c2 h.2)]
      clear c1 hN c2
      go_enter Tryz.func105, Tryz.ntmps105
      go_wp2_with fail
      refine HC.out.mono ?_
      rintro e w1 ⟨rfl, hB1⟩
      have hr1 := (hB1.block w.heap.size (by simp)).trans HR.out
      have HB1 := Lib.hid (HB0.out.trans (hB1.mono (by simp)))
      have a0 : w1.cell? ⟨w.heap.size, 0, none⟩ = some (.int .i64 y) := cell_of_row w1 _ 0 _ _ _ hr1
      have a1 : w1.cell? ⟨w.heap.size, 1, none⟩ = some (.int .i64 m) := cell_of_row w1 _ 1 _ _ _ hr1
      have a2 : w1.cell? ⟨w.heap.size, 2, none⟩ = some (.int .i64 d) := cell_of_row w1 _ 2 _ _ _ hr1
      have a3 : w1.cell? ⟨w.heap.size, 3, none⟩ = some (.int .i64 h) := cell_of_row w1 _ 3 _ _ _ hr1
      have a4 : w1.cell? ⟨w.heap.size, 4, none⟩ = some (.int .i64 mi) := cell_of_row w1 _ 4 _ _ _ hr1
      have a5 : w1.cell? ⟨w.heap.size, 5, none⟩ = some (.int .i64 s) := cell_of_row w1 _ 5 _ _ _ hr1
      clear hB1 hr1 HC
      go_wp2_with fail
      refine (hasTime_any _ _ _ _ _ _ _).mono ?_
      rintro e w2 ⟨rfl, hB2⟩
      rw [hg.out]
      have HB2 := Lib.hid (HB1.out.trans (hB2.mono HB1.out.size))
      clear hB2
      go_wp2
      go_ret2
      exact ⟨rfl, HB2.out⟩
  · have hcd := day_no y m d _ HT1.out c1
    have HC := Lib.hid hcd
    unfold instV momE
    rw [if_neg (fun h => c1 h.1), if_neg (fun h => c1 h.1)]
    clear hcd c1
    go_enter Tryz.func105, Tryz.ntmps105
    go_wp2_with fail
    refine HC.out.mono ?_
    rintro e w1 ⟨rfl, hB1⟩
    have HB1 := Lib.hid (HB0.out.trans (hB1.mono (by simp)))
    clear hB1 HC
    go_wp2
    go_ret2
    exact ⟨rfl, HB1.out⟩
theorem results_at {y m d h mi s e : Int} {b : Nat} {tmps : Array Value} {w : World} (h2 : tmps.getD 2 undef = .pointer (some ⟨b, 0, none⟩)) (h3 : tmps.getD 3 undef = .int .i64 e)
    (hb : w.heap[b]? = some (.cells #[.int .i64 y, .int .i64 m, .int .i64 d, .int .i64 h, .int .i64 mi, .int .i64 s] 113 (0, 0))) : (results Tryz.f75 tmps).run Tryz.prog w = .ok (.tuple #[momV y m d h mi s, .int .i64 e]) w := by
  have c0 : w.cell? ⟨b, 0, none⟩ = some (.int .i64 y) := cell_of_row w b 0 _ _ _ hb
  have c1 : w.cell? ⟨b, 1, none⟩ = some (.int .i64 m) := cell_of_row w b 1 _ _ _ hb
  have c2 : w.cell? ⟨b, 2, none⟩ = some (.int .i64 d) := cell_of_row w b 2 _ _ _ hb
  have c3 : w.cell? ⟨b, 3, none⟩ = some (.int .i64 h) := cell_of_row w b 3 _ _ _ hb
  have c4 : w.cell? ⟨b, 4, none⟩ = some (.int .i64 mi) := cell_of_row w b 4 _ _ _ hb
  have c5 : w.cell? ⟨b, 5, none⟩ = some (.int .i64 s) := cell_of_row w b 5 _ _ _ hb
  simp only [Array.getD_eq_getD_getElem?] at h2 h3
  simp [results, Tryz.results75, go_sem, h2, h3, c0, c1, c2, c3, c4, c5, momV]
theorem at_no (t : Int) (h : ¬ (0 ≤ t ∧ t < 253402300800)) (w : World) :
    Calls Tryz.prog 75 #[.int .i64 t] w fun e w' => e = .returned (.tuple #[momV 0 0 0 0 0 0, .int .i64 60]) ∧ Below w.heap.size w w' := by
  by_cases h0 : t < 0
  · go_enter Tryz.func75, Tryz.ntmps75
    go_wp2
    refine bodyPost_ret (results_at rfl rfl (heap_alloc_new w _)) rfl ?_
    exact ⟨rfl, (Below.refl _ w).alloc (Nat.le_refl _) _⟩
  · have h1 : 253402300800 ≤ t := by omega
    go_enter Tryz.func75, Tryz.ntmps75
    go_wp2
    refine bodyPost_ret (results_at rfl rfl (heap_alloc_new w _)) rfl ?_
    exact ⟨rfl, (Below.refl _ w).alloc (Nat.le_refl _) _⟩
set_option maxRecDepth 100000 in
theorem at_yes (t : Int) (h0 : 0 ≤ t) (h1 : t < 253402300800) (y m d : Int) (hi : IsDate (t / 86400) y m d) (w : World) (hT : Tabs w) :
    Calls Tryz.prog 75 #[.int .i64 t] w fun e w' => e = .returned (.tuple #[momV y m d (t % 86400 / 3600) (t % 3600 / 60) (t % 60), .int .i64 0]) ∧ Below w.heap.size w w' := by
  have hT1 := hT.next ((Below.refl _ w).alloc (Nat.le_refl _) (.cells #[.int .i64 0, .int .i64 0, .int .i64 0, .int .i64 0, .int .i64 0, .int .i64 0] 113))
  have hr := heap_alloc_new w (.cells #[.int .i64 0, .int .i64 0, .int .i64 0, .int .i64 0, .int .i64 0, .int .i64 0] 113)
  have HR := Lib.hid hr
  have HC := Lib.hid (of_is _ y m d hi _ hT1)
  have HB0 := Lib.hid ((Below.refl _ w).alloc (Nat.le_refl _) (.cells #[.int .i64 0, .int .i64 0, .int .i64 0, .int .i64 0, .int .i64 0, .int .i64 0] 113))
  clear hT hT1 hr hi
  go_enter Tryz.func75, Tryz.ntmps75
  go_wp2_with fail
  refine HC.out.mono ?_
  rintro e w1 ⟨rfl, hB1⟩
  have hr1 := (hB1.block w.heap.size (by simp)).trans HR.out
  have hlt : w.heap.size < w1.heap.size := (Array.getElem?_eq_some_iff.1 hr1).1
  have HB1 := Lib.hid (HB0.out.trans (hB1.mono (by simp)))
  have a0 : w1.cell? ⟨w.heap.size, 0, none⟩ = some (.int .i64 0) := cell_of_row w1 _ 0 _ _ _ hr1
  have a1 : w1.cell? ⟨w.heap.size, 1, none⟩ = some (.int .i64 0) := cell_of_row w1 _ 1 _ _ _ hr1
  have a2 : w1.cell? ⟨w.heap.size, 2, none⟩ = some (.int .i64 0) := cell_of_row w1 _ 2 _ _ _ hr1
  have a3 : w1.cell? ⟨w.heap.size, 3, none⟩ = some (.int .i64 0) := cell_of_row w1 _ 3 _ _ _ hr1
  have a4 : w1.cell? ⟨w.heap.size, 4, none⟩ = some (.int .i64 0) := cell_of_row w1 _ 4 _ _ _ hr1
  have a5 : w1.cell? ⟨w.heap.size, 5, none⟩ = some (.int .i64 0) := cell_of_row w1 _ 5 _ _ _ hr1
  have f0 := frozen_of_row w1 w.heap.size 0 _ _ hr1
  have f1 := frozen_of_row w1 w.heap.size 1 _ _ hr1
  have f2 := frozen_of_row w1 w.heap.size 2 _ _ hr1
  have f3 := frozen_of_row w1 w.heap.size 3 _ _ hr1
  have f4 := frozen_of_row w1 w.heap.size 4 _ _ hr1
  have f5 := frozen_of_row w1 w.heap.size 5 _ _ hr1
  have HR1 := Lib.hid hr1
  clear hB1 hr1 HC
  go_wp2
  have hrow := (heap_setCell_same _ w.heap.size 5 _ _ (.int .i64 (t % 60)) (heap_setCell_same _ w.heap.size 4 _ _ (.int .i64 (t % 3600 / 60)) (heap_setCell_same _ w.heap.size 3 _ _ (.int .i64 (t % 86400 / 3600)) (heap_setCell_same _ w.heap.size 2 _ _ (.int .i64 d) (heap_setCell_same _ w.heap.size 1 _ _ (.int .i64 m) (heap_setCell_same _ w.heap.size 0 _ _ (.int .i64 y) HR1.out))))))
  have hbel := ((((((HB1.out.setCell (p := ⟨w.heap.size, 0, none⟩) (by simp) (.int .i64 y)).setCell (p := ⟨w.heap.size, 1, none⟩) (by simp) (.int .i64 m)).setCell (p := ⟨w.heap.size, 2, none⟩) (by simp) (.int .i64 d)).setCell (p := ⟨w.heap.size, 3, none⟩) (by simp) (.int .i64 (t % 86400 / 3600))).setCell (p := ⟨w.heap.size, 4, none⟩) (by simp) (.int .i64 (t % 3600 / 60))).setCell (p := ⟨w.heap.size, 5, none⟩) (by simp) (.int .i64 (t % 60)))
  refine bodyPost_ret (results_at rfl rfl (heap_old hrow _)) rfl ?_
  exact ⟨rfl, hbel.alloc hbel.size _⟩
end Go.Proofs.YtbffmobjiiicoaaGreatDoor
end
section
/- Contracts of the document's functions: Leap, Days, May, Clock, Weekday, Day, Of. -/
set_option linter.unusedVariables false
set_option linter.unusedSimpArgs false
namespace Go.Proofs.YtbffmobjiiicoaaGreatDoor
open Go.RowKit Go.Shelf
theorem rleap_any (y : Int) (w : World) :
    Calls Tryz.prog 84 #[.int .i64 y] w fun e w' => e = .returned (.bool (leap y)) ∧ w = w' := by
  have hdv : (y.tmod 400 == 0) = true → (y.tmod 4 == 0) = true := fun h => by
    have h1 : (400 : Int) ∣ y := Int.dvd_of_tmod_eq_zero (by simpa using h)
    have h2 : (4 : Int) ∣ y := by omega
    simpa using Int.tmod_eq_zero_of_dvd h2
  unfold leap
  cases h400 : (y.tmod 400 == 0)
  · clear hdv
    cases h4 : (y.tmod 4 == 0) <;> cases h100 : (y.tmod 100 != 0)
    all_goals
      go_enter Tryz.func84, Tryz.ntmps84
      go_wp2
      go_ret
      exact ⟨rfl, rfl⟩
  · have h4 := hdv h400
    rw [h4]
    clear hdv
    rw [show (true && ((y.tmod 100 != 0) || true)) = true by simp]
    go_enter Tryz.func84, Tryz.ntmps84
    go_wp2
    go_ret
    exact ⟨rfl, rfl⟩
theorem rdays_any (y m : Int) (w : World) :
    Calls Tryz.prog 66 #[.int .i64 y, .int .i64 m] w fun e w' => e = .returned (.int .i64 (dlen y m)) ∧ w = w' := by
  by_cases h1 : 1 ≤ m ∧ m ≤ 12
  · rw [dlen_in h1.1 h1.2]
    unfold lp mlen
    rcases month_cases h1.1 h1.2 with rfl | rfl | rfl | rfl | rfl | rfl | rfl | rfl | rfl | rfl | rfl | rfl
    all_goals cases hl : leap y
    all_goals
      clear h1
      go_enter Tryz.func66, Tryz.ntmps66
      go_wp2_with (go_at_call 84; refine (rleap_any _ _).mono ?_; rintro e w' ⟨rfl, rfl⟩; rw [hl])
      go_ret
      exact ⟨rfl, rfl⟩
  · rw [show dlen y m = 0 by unfold dlen; rw [if_pos (by omega)]]
    have e4 : (m == 4) = false := by simp; omega
    have e6 : (m == 6) = false := by simp; omega
    have e9 : (m == 9) = false := by simp; omega
    have e11 : (m == 11) = false := by simp; omega
    have e2 : (m == 2) = false := by simp; omega
    by_cases h0 : m < 1
    · clear h1
      go_enter Tryz.func66, Tryz.ntmps66
      go_wp2
      go_ret
      exact ⟨rfl, rfl⟩
    · have h12 : 12 < m := by omega
      clear h1
      go_enter Tryz.func66, Tryz.ntmps66
      go_wp2
      go_ret
      exact ⟨rfl, rfl⟩
theorem rmay_any (y m d : Int) (w : World) :
    Calls Tryz.prog 49 #[.int .i64 y, .int .i64 m, .int .i64 d] w fun e w' => e = .returned (.bool (decide (May y m d))) ∧ w = w' := by
  have hc := rdays_any y m
  have hd : decide (May y m d) = (decide (1970 ≤ y) && (decide (y ≤ 9999) && (decide (1 ≤ m) && (decide (m ≤ 12) && (decide (1 ≤ d) && decide (d ≤ dlen y m)))))) := by
    rw [Bool.eq_iff_iff, decide_eq_true_iff]; simp [May]
  rw [hd]
  obtain ⟨L, hL⟩ : ∃ L, L = dlen y m := ⟨_, rfl⟩
  rw [← hL] at hc ⊢
  have HC := Lib.hid hc
  clear hc hd hL
  cases h1 : decide (1970 ≤ y)
  · go_enter Tryz.func49, Tryz.ntmps49
    go_wp2_with (go_at_call 66; refine (HC.out _).mono ?_; rintro e w' ⟨rfl, rfl⟩)
    go_ret
    exact ⟨rfl, rfl⟩
  · cases h2 : decide (y ≤ 9999)
    · go_enter Tryz.func49, Tryz.ntmps49
      go_wp2_with (go_at_call 66; refine (HC.out _).mono ?_; rintro e w' ⟨rfl, rfl⟩)
      go_ret
      exact ⟨rfl, rfl⟩
    · cases h3 : decide (1 ≤ m)
      · go_enter Tryz.func49, Tryz.ntmps49
        go_wp2_with (go_at_call 66; refine (HC.out _).mono ?_; rintro e w' ⟨rfl, rfl⟩)
        go_ret
        exact ⟨rfl, rfl⟩
      · cases h4 : decide (m ≤ 12)
        · go_enter Tryz.func49, Tryz.ntmps49
          go_wp2_with (go_at_call 66; refine (HC.out _).mono ?_; rintro e w' ⟨rfl, rfl⟩)
          go_ret
          exact ⟨rfl, rfl⟩
        · cases h5 : decide (1 ≤ d)
          · go_enter Tryz.func49, Tryz.ntmps49
            go_wp2_with (go_at_call 66; refine (HC.out _).mono ?_; rintro e w' ⟨rfl, rfl⟩)
            go_ret
            exact ⟨rfl, rfl⟩
          · cases h6 : decide (d ≤ L)
            · go_enter Tryz.func49, Tryz.ntmps49
              go_wp2_with (go_at_call 66; refine (HC.out _).mono ?_; rintro e w' ⟨rfl, rfl⟩)
              go_ret
              exact ⟨rfl, rfl⟩
            · go_enter Tryz.func49, Tryz.ntmps49
              go_wp2_with (go_at_call 66; refine (HC.out _).mono ?_; rintro e w' ⟨rfl, rfl⟩)
              go_ret
              exact ⟨rfl, rfl⟩
theorem rweekday_any (n : Int) (w : World) :
    Calls Tryz.prog 67 #[.int .i64 n] w fun e w' => e = .returned (.int .i64 (wkB n)) ∧ w = w' := by
  unfold wkB
  by_cases h : 0 ≤ n ∧ n ≤ 2932896
  · rw [if_pos h]
    obtain ⟨h0, h1⟩ := h
    go_enter Tryz.func67, Tryz.ntmps67
    go_wp2
    go_loopw [3, 4] (fun k i wr => ∃ j : Nat, (j : Int) ≤ n % 7 ∧ i = .int .i64 j ∧ k = .int .i64 ((3 + (j : Int)) % 7 + 1) ∧ w = wr) (fun _ i _ => 7 - (intOf i).toNat)
    case atStart => exact ⟨0, by omega, rfl, rfl, rfl⟩
    case round =>
      obtain ⟨j, hj, rfl, rfl, rfl⟩ := hrel
      have hj6 : (j : Int) ≤ 6 := by omega
      by_cases hlt : (j : Int) < n % 7
      · have g1 : decide ((j : Int) < n % 7) = true := decide_eq_true hlt
        by_cases h8 : (3 + (j : Int)) % 7 + 1 + 1 = 8
        · have g2 : ((3 + (j : Int)) % 7 + 1 + 1 == 8) = true := by simp [h8]
          go_wp2
          go_roundw
          case rel => exact ⟨j + 1, by omega, by go_num, congrArg (Value.int .i64) (by rw [Int.natCast_add]; omega), trivial⟩
          case measure => simp [intOf]; omega
        · have g2 : ((3 + (j : Int)) % 7 + 1 + 1 == 8) = false := by simp [h8]
          go_wp2
          go_roundw
          case rel => exact ⟨j + 1, by omega, by go_num, congrArg (Value.int .i64) (by rw [Int.natCast_add]; omega), trivial⟩
          case measure => simp [intOf]; omega
      · have g1 : decide ((j : Int) < n % 7) = false := decide_eq_false hlt
        have he : (j : Int) = n % 7 := by omega
        have hw : (3 + (j : Int)) % 7 + 1 = wkday n := by unfold wkday; omega
        go_wp2
        go_ret
        exact ⟨congrArg Ending.returned (congrArg (Value.int .i64) (by unfold wkday; omega)), rfl⟩
  · rw [if_neg h]
    by_cases h0 : n < 0
    · clear h
      go_enter Tryz.func67, Tryz.ntmps67
      go_wp2
      go_ret
      exact ⟨rfl, rfl⟩
    · have h1 : 2932896 < n := by omega
      clear h
      go_enter Tryz.func67, Tryz.ntmps67
      go_wp2
      go_ret
      exact ⟨rfl, rfl⟩
end Go.Proofs.YtbffmobjiiicoaaGreatDoor
end
section
/- Contracts of the document's functions: Day and Of. -/
set_option linter.unusedVariables false
set_option linter.unusedSimpArgs false
namespace Go.Proofs.YtbffmobjiiicoaaGreatDoor
open Go.RowKit Go.Shelf
theorem leap_cases (y : Int) : (leap y = true ∧ lp y = 1) ∨ (leap y = false ∧ lp y = 0) := by
  cases h : leap y
  · exact .inr ⟨rfl, lp_no h⟩
  · exact .inl ⟨rfl, lp_leap h⟩
set_option maxHeartbeats 1000000 in
theorem rday_any (y m d : Int) (w : World) :
    Calls Tryz.prog 100 #[.int .i64 y, .int .i64 m, .int .i64 d] w fun e w' => e = .returned (.tuple #[.int .i64 (dayE y m d), .int .i64 (mayE y m d)]) ∧ w = w' := by
  unfold dayE mayE
  by_cases h : May y m d
  · rw [if_pos h, if_pos h]
    have hg := Lib.hid (show decide (May y m d) = true from decide_eq_true h)
    have hdb := day_bounds h
    have hmb : 1970 ≤ y ∧ y ≤ 9999 ∧ 1 ≤ m ∧ m ≤ 12 ∧ 1 ≤ d ∧ d ≤ 31 := by
      have := dlen_bounds (y := y) (m := m)
      obtain ⟨h1, h2, h3, h4, h5, h6⟩ := h
      omega
    obtain ⟨hm1, hm2, hm3, hm4, hm5, hm6⟩ := hmb
    clear h
    go_enter Tryz.func100, Tryz.ntmps100
    go_wp2_with (go_at_call 49; refine (rmay_any _ _ _ _).mono ?_; rintro e w' ⟨rfl, rfl⟩; rw [hg.out])
    go_loopw [9, 10] (fun k i wr => ∃ j : Int, 1970 ≤ j ∧ j ≤ y ∧ i = .int .i64 j ∧ k = .int .i64 (d - 1 + ahead j) ∧ w = wr) (fun _ i _ => (y - intOf i).toNat)
    case atStart => exact ⟨1970, by omega, by omega, rfl, by rw [ahead_1970]; simp, rfl⟩
    case round =>
      obtain ⟨j, hj0, hj1, rfl, rfl, rfl⟩ := hrel
      have ha0 := ahead_le (a := 1970) (b := j) hj0
      have ha1 := ahead_le (a := j) (b := 10000) (by omega)
      rw [ahead_1970] at ha0
      rw [ahead_10000] at ha1
      have hs := ahead_succ (y := j) (by omega)
      by_cases hlt : j < y
      · have g1 : decide (j < y) = true := decide_eq_true hlt
        obtain ⟨A, hA⟩ : ∃ A, A = ahead j := ⟨_, rfl⟩
        rw [← hA] at ha0 ha1 hs ⊢
        have HS := Lib.hid hs
        clear hs hA
        rcases leap_cases j with ⟨hl, hp⟩ | ⟨hl, hp⟩
        · have HLL := Lib.hid hl
          have HP := Lib.hid hp
          clear hl hp
          go_wp2_with (go_at_call 84; refine (rleap_any _ _).mono ?_; rintro e w' ⟨rfl, rfl⟩; rw [HLL.out])
          go_roundw
          case rel =>
            have hs := HS.out
            rw [HP.out] at hs
            exact ⟨j + 1, by omega, by omega, rfl, congrArg (Value.int .i64) (by rw [hs]; omega), trivial⟩
          case measure => simp [intOf]; omega
        · have HLL := Lib.hid hl
          have HP := Lib.hid hp
          clear hl hp
          go_wp2_with (go_at_call 84; refine (rleap_any _ _).mono ?_; rintro e w' ⟨rfl, rfl⟩; rw [HLL.out])
          go_roundw
          case rel =>
            have hs := HS.out
            rw [HP.out] at hs
            exact ⟨j + 1, by omega, by omega, rfl, congrArg (Value.int .i64) (by rw [hs]; omega), trivial⟩
          case measure => simp [intOf]; omega
      · have g1 : decide (j < y) = false := decide_eq_false hlt
        obtain rfl : j = y := by omega
        have HDB := Lib.hid hdb
        clear hs hdb
        obtain ⟨A, hA⟩ : ∃ A, A = ahead j := ⟨_, rfl⟩
        rw [← hA] at ha0 ha1 ⊢
        have HA := Lib.hid hA
        clear hA
        go_wp2
        obtain ⟨wo, hwo⟩ : ∃ wo : World, wo = w := ⟨_, rfl⟩
        go_loopw [9, 11] (fun k i wr => ∃ q : Int, 1 ≤ q ∧ q ≤ m ∧ i = .int .i64 q ∧ k = .int .i64 (d - 1 + A + bef j q) ∧ w = wr) (fun _ i _ => (m - intOf i).toNat)
        case atStart => exact ⟨1, by omega, by omega, rfl, by rw [bef_one]; simp, rfl⟩
        case round =>
          obtain ⟨q, hq0, hq1, rfl, rfl, rfl⟩ := hrel
          have hbb := bef_bounds (y := j) (m := q) (by omega) (by omega)
          by_cases hlq : q < m
          · have g2 : decide (q < m) = true := decide_eq_true hlq
            have hs := bef_succ (y := j) (m := q) (by omega) (by omega)
            have hdl := dlen_bounds (y := j) (m := q)
            have hc := rdays_any j q
            obtain ⟨B, hB⟩ : ∃ A, A = bef j q := ⟨_, rfl⟩
            obtain ⟨D, hD⟩ : ∃ A, A = dlen j q := ⟨_, rfl⟩
            rw [← hB] at hbb hs ⊢
            rw [← hD] at hs hdl hc
            have HS := Lib.hid hs
            have HC := Lib.hid hc
            clear hs hB hD hc
            go_wp2_with (go_at_call 66; refine (HC.out _).mono ?_; rintro e w' ⟨rfl, rfl⟩)
            go_roundw
            case rel =>
              have hs := HS.out
              exact ⟨q + 1, by omega, by omega, rfl, congrArg (Value.int .i64) (by rw [hs]; omega), trivial⟩
            case measure => simp [intOf]; omega
          · have g2 : decide (q < m) = false := decide_eq_false hlq
            obtain rfl : q = m := by omega
            have he : d - 1 + A + bef j q = dayOf j q d := by rw [HA.out]; unfold dayOf; omega
            rw [he]
            clear he hbb
            go_wp2
            go_ret2
            exact ⟨rfl, rfl⟩
  · rw [if_neg h, if_neg h]
    have hg := Lib.hid (show decide (May y m d) = false from decide_eq_false h)
    clear h
    go_enter Tryz.func100, Tryz.ntmps100
    go_wp2_with (go_at_call 49; refine (rmay_any _ _ _ _).mono ?_; rintro e w' ⟨rfl, rfl⟩; rw [hg.out])
    go_ret2
    exact ⟨rfl, rfl⟩
theorem rof_no (n : Int) (h : ¬ (0 ≤ n ∧ n ≤ 2932896)) (w : World) :
    Calls Tryz.prog 63 #[.int .i64 n] w fun e w' => e = .returned (.tuple #[.int .i64 0, .int .i64 0, .int .i64 0, .int .i64 60]) ∧ w = w' := by
  by_cases h0 : n < 0
  · clear h
    go_enter Tryz.func63, Tryz.ntmps63
    go_wp2
    refine bodyPost_ret (v := .tuple #[.int .i64 0, .int .i64 0, .int .i64 0, .int .i64 60]) (by simp [results, Tryz.results63, go_sem]) rfl ⟨rfl, rfl⟩
  · have h1 : 2932896 < n := by omega
    clear h
    go_enter Tryz.func63, Tryz.ntmps63
    go_wp2
    refine bodyPost_ret (v := .tuple #[.int .i64 0, .int .i64 0, .int .i64 0, .int .i64 60]) (by simp [results, Tryz.results63, go_sem]) rfl ⟨rfl, rfl⟩
set_option maxHeartbeats 2000000 in
theorem rof_yes (n : Int) (h0 : 0 ≤ n) (h1 : n ≤ 2932896) (w : World) :
    Calls Tryz.prog 63 #[.int .i64 n] w fun e w' => (∃ y m d, IsDate n y m d ∧ e = .returned (.tuple #[.int .i64 y, .int .i64 m, .int .i64 d, .int .i64 0])) ∧ w = w' := by
  go_enter Tryz.func63, Tryz.ntmps63
  go_wp2
  go_loopw [0, 6, 7] (fun k i l wr => ∃ j : Int, 1970 ≤ j ∧ j ≤ 9999 ∧ i = .int .i64 j ∧ k = .int .i64 (n - ahead j) ∧ ahead j ≤ n ∧ w = wr) (fun _ i _ _ => (9999 - intOf i).toNat)
  case atStart => exact ⟨1970, by omega, by omega, rfl, by rw [ahead_1970]; simp, by rw [ahead_1970]; omega, rfl⟩
  case round =>
    obtain ⟨j, hj0, hj1, rfl, rfl, hja, rfl⟩ := hrel
    have ha0 := ahead_le (a := 1970) (b := j) hj0
    rw [ahead_1970] at ha0
    have hs := ahead_succ (y := j) (by omega)
    have hlpb := lp_le j
    have hlast : 9999 ≤ j → n < ahead j + 365 + lp j := fun hh => by
      obtain rfl : j = 9999 := by omega
      rw [← hs, show (9999 : Int) + 1 = 10000 from rfl, ahead_10000]; omega
    obtain ⟨A, hA⟩ : ∃ A, A = ahead j := ⟨_, rfl⟩
    rw [← hA] at ha0 hs hja hlast ⊢
    have HS := Lib.hid hs
    have HA := Lib.hid hA
    have HL := Lib.hid hlast
    clear hs hA hlast
    by_cases hlt : j < 9999
    · have g1 : decide (j < 9999) = true := decide_eq_true hlt
      by_cases hbr : n - A < 365 + lp j
      · have hrl := hbr
        rcases leap_cases j with ⟨hl, hp⟩ | ⟨hl, hp⟩
        · have gb : decide (n - A < 366) = true := decide_eq_true (by omega)
          have HLL := Lib.hid hl
          clear hl hbr
          go_wp2_with (first | (go_at_call 84; refine (rleap_any _ _).mono ?_; rintro e w' ⟨rfl, rfl⟩; rw [HLL.out]))
          obtain ⟨R, hR⟩ : ∃ R, R = n - A := ⟨_, rfl⟩
          rw [← hR]
          have hR0 : 0 ≤ R ∧ R ≤ 366 := by omega
          have HRY := Lib.hid (show R < 365 + lp j from by omega)
          have HRR := Lib.hid hR
          clear hR hrl
          go_loopw [0, 8] (fun k i wr => ∃ q : Int, 1 ≤ q ∧ q ≤ 12 ∧ i = .int .i64 q ∧ k = .int .i64 (R - bef j q) ∧ bef j q ≤ R ∧ w = wr) (fun _ i _ => (12 - intOf i).toNat)
          case atStart => exact ⟨1, by omega, by omega, rfl, by rw [bef_one]; simp, by rw [bef_one]; omega, rfl⟩
          case round =>
            obtain ⟨q, hq0, hq1, rfl, rfl, hqr, rfl⟩ := hrel
            have hbb := bef_bounds (y := j) (m := q) (by omega) (by omega)
            have hs := bef_succ (y := j) (m := q) (by omega) (by omega)
            have hdl := dlen_bounds (y := j) (m := q)
            have hc := rdays_any j q
            have hfin : R < bef j q + dlen j q → IsDate n j q (R - bef j q + 1) := fun hh => by
              have hr := HRR.out
              have ha := HA.out
              have := isDate_of (n := n) (y := j) (m := q) (by omega) (by omega) hq0 hq1 (by omega) (by omega)
              rw [hr, ha]; exact this
            have h13 := bef_13 j
            have hend : 12 ≤ q → R < bef j q + dlen j q := fun hh => by
              obtain rfl : q = 12 := by omega
              rw [← hs, show (12 : Int) + 1 = 13 from rfl, h13]; exact HRY.out
            obtain ⟨B, hB⟩ : ∃ A, A = bef j q := ⟨_, rfl⟩
            obtain ⟨D, hD⟩ : ∃ A, A = dlen j q := ⟨_, rfl⟩
            rw [← hB] at hbb hs hqr hfin hend ⊢
            rw [← hD] at hs hdl hc hfin hend
            have HS := Lib.hid hs
            have HC := Lib.hid hc
            have HF := Lib.hid hfin
            have HE := Lib.hid hend
            clear hs hB hD hc hfin hend h13
            by_cases hlq : q < 12
            · have g2 : decide (q < 12) = true := decide_eq_true hlq
              by_cases hge : D ≤ R - B
              · have g3 : decide (D ≤ R - B) = true := decide_eq_true hge
                go_wp2_with (go_at_call 66; refine (HC.out _).mono ?_; rintro e w' ⟨rfl, rfl⟩)
                go_roundw
                case rel =>
                  have hs := HS.out
                  exact ⟨q + 1, by omega, by omega, rfl, congrArg (Value.int .i64) (by rw [hs]; omega), by rw [hs]; omega, trivial⟩
                case measure => simp [intOf]; omega
              · have g3 : decide (D ≤ R - B) = false := decide_eq_false hge
                go_wp2_with (go_at_call 66; refine (HC.out _).mono ?_; rintro e w' ⟨rfl, rfl⟩)
                exact bodyPost_ret (v := .tuple #[.int .i64 j, .int .i64 q, .int .i64 (R - B + 1), .int .i64 0]) (by simp [results, Tryz.results63, go_sem]) rfl ⟨⟨j, q, R - B + 1, HF.out (by omega), rfl⟩, rfl⟩
            · have g2 : decide (q < 12) = false := decide_eq_false hlq
              have hgt := HE.out (by omega)
              go_wp2
              exact bodyPost_ret (v := .tuple #[.int .i64 j, .int .i64 q, .int .i64 (R - B + 1), .int .i64 0]) (by simp [results, Tryz.results63, go_sem]) rfl ⟨⟨j, q, R - B + 1, HF.out (by omega), rfl⟩, rfl⟩
        · have gb : decide (n - A < 365) = true := decide_eq_true (by omega)
          have HLL := Lib.hid hl
          clear hl hbr
          go_wp2_with (first | (go_at_call 84; refine (rleap_any _ _).mono ?_; rintro e w' ⟨rfl, rfl⟩; rw [HLL.out]))
          obtain ⟨R, hR⟩ : ∃ R, R = n - A := ⟨_, rfl⟩
          rw [← hR]
          have hR0 : 0 ≤ R ∧ R ≤ 366 := by omega
          have HRY := Lib.hid (show R < 365 + lp j from by omega)
          have HRR := Lib.hid hR
          clear hR hrl
          go_loopw [0, 8] (fun k i wr => ∃ q : Int, 1 ≤ q ∧ q ≤ 12 ∧ i = .int .i64 q ∧ k = .int .i64 (R - bef j q) ∧ bef j q ≤ R ∧ w = wr) (fun _ i _ => (12 - intOf i).toNat)
          case atStart => exact ⟨1, by omega, by omega, rfl, by rw [bef_one]; simp, by rw [bef_one]; omega, rfl⟩
          case round =>
            obtain ⟨q, hq0, hq1, rfl, rfl, hqr, rfl⟩ := hrel
            have hbb := bef_bounds (y := j) (m := q) (by omega) (by omega)
            have hs := bef_succ (y := j) (m := q) (by omega) (by omega)
            have hdl := dlen_bounds (y := j) (m := q)
            have hc := rdays_any j q
            have hfin : R < bef j q + dlen j q → IsDate n j q (R - bef j q + 1) := fun hh => by
              have hr := HRR.out
              have ha := HA.out
              have := isDate_of (n := n) (y := j) (m := q) (by omega) (by omega) hq0 hq1 (by omega) (by omega)
              rw [hr, ha]; exact this
            have h13 := bef_13 j
            have hend : 12 ≤ q → R < bef j q + dlen j q := fun hh => by
              obtain rfl : q = 12 := by omega
              rw [← hs, show (12 : Int) + 1 = 13 from rfl, h13]; exact HRY.out
            obtain ⟨B, hB⟩ : ∃ A, A = bef j q := ⟨_, rfl⟩
            obtain ⟨D, hD⟩ : ∃ A, A = dlen j q := ⟨_, rfl⟩
            rw [← hB] at hbb hs hqr hfin hend ⊢
            rw [← hD] at hs hdl hc hfin hend
            have HS := Lib.hid hs
            have HC := Lib.hid hc
            have HF := Lib.hid hfin
            have HE := Lib.hid hend
            clear hs hB hD hc hfin hend h13
            by_cases hlq : q < 12
            · have g2 : decide (q < 12) = true := decide_eq_true hlq
              by_cases hge : D ≤ R - B
              · have g3 : decide (D ≤ R - B) = true := decide_eq_true hge
                go_wp2_with (go_at_call 66; refine (HC.out _).mono ?_; rintro e w' ⟨rfl, rfl⟩)
                go_roundw
                case rel =>
                  have hs := HS.out
                  exact ⟨q + 1, by omega, by omega, rfl, congrArg (Value.int .i64) (by rw [hs]; omega), by rw [hs]; omega, trivial⟩
                case measure => simp [intOf]; omega
              · have g3 : decide (D ≤ R - B) = false := decide_eq_false hge
                go_wp2_with (go_at_call 66; refine (HC.out _).mono ?_; rintro e w' ⟨rfl, rfl⟩)
                exact bodyPost_ret (v := .tuple #[.int .i64 j, .int .i64 q, .int .i64 (R - B + 1), .int .i64 0]) (by simp [results, Tryz.results63, go_sem]) rfl ⟨⟨j, q, R - B + 1, HF.out (by omega), rfl⟩, rfl⟩
            · have g2 : decide (q < 12) = false := decide_eq_false hlq
              have hgt := HE.out (by omega)
              go_wp2
              exact bodyPost_ret (v := .tuple #[.int .i64 j, .int .i64 q, .int .i64 (R - B + 1), .int .i64 0]) (by simp [results, Tryz.results63, go_sem]) rfl ⟨⟨j, q, R - B + 1, HF.out (by omega), rfl⟩, rfl⟩
      · rcases leap_cases j with ⟨hl, hp⟩ | ⟨hl, hp⟩
        · have gb : decide (n - A < 366) = false := decide_eq_false (by omega)
          have HLL := Lib.hid hl
          have HP := Lib.hid hp
          clear hl hp
          go_wp2_with (go_at_call 84; refine (rleap_any _ _).mono ?_; rintro e w' ⟨rfl, rfl⟩; rw [HLL.out])
          go_roundw
          case rel =>
            have hs := HS.out
            have hp := HP.out
            exact ⟨j + 1, by omega, by omega, rfl, congrArg (Value.int .i64) (by rw [hs, hp]; omega), by rw [hs]; omega, trivial⟩
          case measure => simp [intOf]; omega
        · have gb : decide (n - A < 365) = false := decide_eq_false (by omega)
          have HLL := Lib.hid hl
          have HP := Lib.hid hp
          clear hl hp
          go_wp2_with (go_at_call 84; refine (rleap_any _ _).mono ?_; rintro e w' ⟨rfl, rfl⟩; rw [HLL.out])
          go_roundw
          case rel =>
            have hs := HS.out
            have hp := HP.out
            exact ⟨j + 1, by omega, by omega, rfl, congrArg (Value.int .i64) (by rw [hs, hp]; omega), by rw [hs]; omega, trivial⟩
          case measure => simp [intOf]; omega
    · have g1 : decide (j < 9999) = false := decide_eq_false hlt
      have hrl : n - A < 365 + lp j := by have := HL.out (by omega); omega
      go_wp2
      obtain ⟨R, hR⟩ : ∃ R, R = n - A := ⟨_, rfl⟩
      rw [← hR]
      have hR0 : 0 ≤ R ∧ R ≤ 366 := by omega
      have HRY := Lib.hid (show R < 365 + lp j from by omega)
      have HRR := Lib.hid hR
      clear hR hrl
      go_loopw [0, 8] (fun k i wr => ∃ q : Int, 1 ≤ q ∧ q ≤ 12 ∧ i = .int .i64 q ∧ k = .int .i64 (R - bef j q) ∧ bef j q ≤ R ∧ w = wr) (fun _ i _ => (12 - intOf i).toNat)
      case atStart => exact ⟨1, by omega, by omega, rfl, by rw [bef_one]; simp, by rw [bef_one]; omega, rfl⟩
      case round =>
        obtain ⟨q, hq0, hq1, rfl, rfl, hqr, rfl⟩ := hrel
        have hbb := bef_bounds (y := j) (m := q) (by omega) (by omega)
        have hs := bef_succ (y := j) (m := q) (by omega) (by omega)
        have hdl := dlen_bounds (y := j) (m := q)
        have hc := rdays_any j q
        have hfin : R < bef j q + dlen j q → IsDate n j q (R - bef j q + 1) := fun hh => by
          have hr := HRR.out
          have ha := HA.out
          have := isDate_of (n := n) (y := j) (m := q) (by omega) (by omega) hq0 hq1 (by omega) (by omega)
          rw [hr, ha]; exact this
        have h13 := bef_13 j
        have hend : 12 ≤ q → R < bef j q + dlen j q := fun hh => by
          obtain rfl : q = 12 := by omega
          rw [← hs, show (12 : Int) + 1 = 13 from rfl, h13]; exact HRY.out
        obtain ⟨B, hB⟩ : ∃ A, A = bef j q := ⟨_, rfl⟩
        obtain ⟨D, hD⟩ : ∃ A, A = dlen j q := ⟨_, rfl⟩
        rw [← hB] at hbb hs hqr hfin hend ⊢
        rw [← hD] at hs hdl hc hfin hend
        have HS := Lib.hid hs
        have HC := Lib.hid hc
        have HF := Lib.hid hfin
        have HE := Lib.hid hend
        clear hs hB hD hc hfin hend h13
        by_cases hlq : q < 12
        · have g2 : decide (q < 12) = true := decide_eq_true hlq
          by_cases hge : D ≤ R - B
          · have g3 : decide (D ≤ R - B) = true := decide_eq_true hge
            go_wp2_with (go_at_call 66; refine (HC.out _).mono ?_; rintro e w' ⟨rfl, rfl⟩)
            go_roundw
            case rel =>
              have hs := HS.out
              exact ⟨q + 1, by omega, by omega, rfl, congrArg (Value.int .i64) (by rw [hs]; omega), by rw [hs]; omega, trivial⟩
            case measure => simp [intOf]; omega
          · have g3 : decide (D ≤ R - B) = false := decide_eq_false hge
            go_wp2_with (go_at_call 66; refine (HC.out _).mono ?_; rintro e w' ⟨rfl, rfl⟩)
            exact bodyPost_ret (v := .tuple #[.int .i64 j, .int .i64 q, .int .i64 (R - B + 1), .int .i64 0]) (by simp [results, Tryz.results63, go_sem]) rfl ⟨⟨j, q, R - B + 1, HF.out (by omega), rfl⟩, rfl⟩
        · have g2 : decide (q < 12) = false := decide_eq_false hlq
          have hgt := HE.out (by omega)
          go_wp2
          exact bodyPost_ret (v := .tuple #[.int .i64 j, .int .i64 q, .int .i64 (R - B + 1), .int .i64 0]) (by simp [results, Tryz.results63, go_sem]) rfl ⟨⟨j, q, R - B + 1, HF.out (by omega), rfl⟩, rfl⟩
end Go.Proofs.YtbffmobjiiicoaaGreatDoor
end
section
/- The walk of the statement CivilDays. -/
set_option linter.unusedVariables false
set_option linter.unusedSimpArgs false
namespace Go.Proofs.YtbffmobjiiicoaaGreatDoor
open Go.RowKit Go.Shelf
theorem year_exists (n : Int) (h0 : 0 ≤ n) : ∀ k : Nat, n < ahead (1970 + k) → ∃ y : Int, 1970 ≤ y ∧ y < 1970 + k ∧ ahead y ≤ n ∧ n < ahead (y + 1)
  | 0, h => by rw [Int.natCast_zero, Int.add_zero, ahead_1970] at h; omega
  | k + 1, h => by
    by_cases hk : n < ahead (1970 + k)
    · obtain ⟨y, a, b, c⟩ := year_exists n h0 k hk
      exact ⟨y, a, by omega, c⟩
    · exact ⟨1970 + k, by omega, by omega, by omega, by rw [Int.natCast_add] at h; rw [Int.add_assoc]; exact h⟩
theorem month_exists (y r : Int) (h0 : 0 ≤ r) : ∀ k : Nat, k ≤ 12 → r < bef y (1 + k) → ∃ m : Int, 1 ≤ m ∧ m ≤ k ∧ bef y m ≤ r ∧ r < bef y m + dlen y m
  | 0, _, h => by rw [Int.natCast_zero, Int.add_zero, bef_one] at h; omega
  | k + 1, hk, h => by
    by_cases hr : r < bef y (1 + k)
    · obtain ⟨m, a, b, c⟩ := month_exists y r h0 k (by omega) hr
      exact ⟨m, a, by omega, c⟩
    · have hs := bef_succ (y := y) (m := 1 + k) (by omega) (by omega)
      exact ⟨1 + k, by omega, by omega, by omega, by rw [← hs]; rw [Int.natCast_add, ← Int.add_assoc] at h; exact h⟩
theorem date_exists (n : Int) (h0 : 0 ≤ n) (h1 : n ≤ 2932896) : ∃ y m d, IsDate n y m d := by
  obtain ⟨y, a, b, c, e⟩ := year_exists n h0 8030 (by rw [show (1970 : Int) + (8030 : Nat) = 10000 from rfl, ahead_10000]; omega)
  have hs := ahead_succ (y := y) (by omega)
  have h13 := bef_13 y
  obtain ⟨m, f, g, i, j⟩ := month_exists y (n - ahead y) (by omega) 12 (by omega) (by rw [show (1 : Int) + (12 : Nat) = 13 from rfl]; omega)
  exact ⟨y, m, _, isDate_of a (by omega) f (by omega) (by omega) (by omega)⟩
theorem rof_is (n y m d : Int) (h : IsDate n y m d) (w : World) :
    Calls Tryz.prog 63 #[.int .i64 n] w fun e w' => e = .returned (.tuple #[.int .i64 y, .int .i64 m, .int .i64 d, .int .i64 0]) ∧ w = w' := by
  have hb := day_bounds h.1
  rw [← h.2] at hb
  refine (rof_yes n hb.1 hb.2 w).mono ?_
  rintro e w' ⟨⟨y', m', d', h', rfl⟩, hB⟩
  obtain ⟨rfl, rfl, rfl⟩ := h.unique h'
  exact ⟨rfl, hB⟩
end Go.Proofs.YtbffmobjiiicoaaGreatDoor
end
section
/- The contract of civil.Nth. -/
set_option linter.unusedVariables false
set_option linter.unusedSimpArgs false
namespace Go.Proofs.YtbffmobjiiicoaaGreatDoor
open Go.RowKit Go.Shelf
/-- The first such weekday of a month, and the n-th, or the last. -/
def nthF (y m wd : Int) : Int := 1 + (wd - wkday (dayOf y m 1) + 7) % 7
def nthD (y m wd n : Int) : Int := if n = -1 then nthF y m wd + (dlen y m - nthF y m wd) / 7 * 7 else nthF y m wd + (n - 1) * 7
def NthIs (y m wd n : Int) : Prop := May y m 1 ∧ (1 ≤ wd ∧ wd ≤ 7) ∧ (n = -1 ∨ (1 ≤ n ∧ n ≤ 5 ∧ nthD y m wd n ≤ dlen y m))
instance (y m wd n : Int) : Decidable (NthIs y m wd n) := by unfold NthIs; infer_instance
theorem nthF_bounds (y m wd : Int) : 1 ≤ nthF y m wd ∧ nthF y m wd ≤ 7 := by unfold nthF; omega
theorem results_nth {y m d e : Int} {b : Nat} {tmps : Array Value} {w : World} (h2 : tmps.getD 8 undef = .pointer (some ⟨b, 0, none⟩)) (h3 : tmps.getD 9 undef = .int .i64 e)
    (hb : w.heap[b]? = some (.cells #[.int .i64 y, .int .i64 m, .int .i64 d] 111 (0, 0))) : (results Tryz.f104 tmps).run Tryz.prog w = .ok (.tuple #[dateV y m d, .int .i64 e]) w := by
  have c0 : w.cell? ⟨b, 0, none⟩ = some (.int .i64 y) := cell_of_row w b 0 _ _ _ hb
  have c1 : w.cell? ⟨b, 1, none⟩ = some (.int .i64 m) := cell_of_row w b 1 _ _ _ hb
  have c2 : w.cell? ⟨b, 2, none⟩ = some (.int .i64 d) := cell_of_row w b 2 _ _ _ hb
  simp only [Array.getD_eq_getD_getElem?] at h2 h3
  simp [results, Tryz.results104, go_sem, h2, h3, c0, c1, c2, dateV]
theorem nth_bad (y m wd n : Int) (h : ¬ (May y m 1 ∧ 1 ≤ wd ∧ wd ≤ 7)) (w : World) (hT : Tabs w) :
    Calls Tryz.prog 104 #[.int .i64 y, .int .i64 m, .int .i64 wd, .int .i64 n] w fun e w' => e = .returned (.tuple #[dateV 0 0 0, .int .i64 60]) ∧ Below w.heap.size w w' := by
  have hb0 := ((Below.refl _ w).alloc (Nat.le_refl _) (.cells #[.int .i64 0, .int .i64 0, .int .i64 0] 111)).alloc (by simp) (.cells #[.int .i64 y, .int .i64 m, .int .i64 1] 111)
  have hr := heap_old (heap_alloc_new w (.cells #[.int .i64 0, .int .i64 0, .int .i64 0] 111)) (.cells #[.int .i64 y, .int .i64 m, .int .i64 1] 111)
  have HB0 := Lib.hid hb0
  have HR0 := Lib.hid hr
  have hday := day_any y m 1 _ (hT.next hb0)
  clear hb0 hr hT
  by_cases hm : May y m 1
  · obtain ⟨N, hN⟩ : ∃ N, N = dayE y m 1 := ⟨_, rfl⟩
    rw [mayE_yes hm, ← hN] at hday
    have DAY := Lib.hid hday
    have hww : wd < 1 ∨ 7 < wd := by
      by_cases c : wd < 1
      · exact .inl c
      · by_cases c2 : 7 < wd
        · exact .inr c2
        · exact absurd ⟨hm, by omega, by omega⟩ h
    clear hday hN hm h
    rcases hww with hw1 | hw7
    · go_enter Tryz.func104, Tryz.ntmps104
      go_wp2_with fail
      refine DAY.out.mono ?_
      rintro e w1 ⟨rfl, hB1⟩
      have hr1 := (hB1.block w.heap.size (by simp; omega)).trans HR0.out
      have HB1 := Lib.hid (HB0.out.trans (hB1.mono (by simp; omega)))
      have a0 : w1.cell? ⟨w.heap.size, 0, none⟩ = some (.int .i64 0) := cell_of_row w1 _ 0 _ _ _ hr1
      have a1 : w1.cell? ⟨w.heap.size, 1, none⟩ = some (.int .i64 0) := cell_of_row w1 _ 1 _ _ _ hr1
      have a2 : w1.cell? ⟨w.heap.size, 2, none⟩ = some (.int .i64 0) := cell_of_row w1 _ 2 _ _ _ hr1
      have f0 := frozen_of_row w1 w.heap.size 0 _ _ hr1
      have f1 := frozen_of_row w1 w.heap.size 1 _ _ hr1
      have f2 := frozen_of_row w1 w.heap.size 2 _ _ hr1
      have HR1 := Lib.hid hr1
      clear hB1 hr1
      go_wp2
      have hrow := heap_setCell_same _ w.heap.size 2 _ _ (.int .i64 0) (heap_setCell_same _ w.heap.size 1 _ _ (.int .i64 0) (heap_setCell_same w1 w.heap.size 0 _ _ (.int .i64 0) HR1.out))
      refine bodyPost_ret (results_nth rfl rfl hrow) rfl ?_
      exact ⟨rfl, ((HB1.out.setCell (p := ⟨w.heap.size, 0, none⟩) (by simp) (.int .i64 0)).setCell (p := ⟨w.heap.size, 1, none⟩) (by simp) (.int .i64 0)).setCell (p := ⟨w.heap.size, 2, none⟩) (by simp) (.int .i64 0)⟩
    · have hw1 : ¬ wd < 1 := by omega
      go_enter Tryz.func104, Tryz.ntmps104
      go_wp2_with fail
      refine DAY.out.mono ?_
      rintro e w1 ⟨rfl, hB1⟩
      have hr1 := (hB1.block w.heap.size (by simp; omega)).trans HR0.out
      have HB1 := Lib.hid (HB0.out.trans (hB1.mono (by simp; omega)))
      have a0 : w1.cell? ⟨w.heap.size, 0, none⟩ = some (.int .i64 0) := cell_of_row w1 _ 0 _ _ _ hr1
      have a1 : w1.cell? ⟨w.heap.size, 1, none⟩ = some (.int .i64 0) := cell_of_row w1 _ 1 _ _ _ hr1
      have a2 : w1.cell? ⟨w.heap.size, 2, none⟩ = some (.int .i64 0) := cell_of_row w1 _ 2 _ _ _ hr1
      have f0 := frozen_of_row w1 w.heap.size 0 _ _ hr1
      have f1 := frozen_of_row w1 w.heap.size 1 _ _ hr1
      have f2 := frozen_of_row w1 w.heap.size 2 _ _ hr1
      have HR1 := Lib.hid hr1
      clear hB1 hr1
      go_wp2
      have hrow := heap_setCell_same _ w.heap.size 2 _ _ (.int .i64 0) (heap_setCell_same _ w.heap.size 1 _ _ (.int .i64 0) (heap_setCell_same w1 w.heap.size 0 _ _ (.int .i64 0) HR1.out))
      refine bodyPost_ret (results_nth rfl rfl hrow) rfl ?_
      exact ⟨rfl, ((HB1.out.setCell (p := ⟨w.heap.size, 0, none⟩) (by simp) (.int .i64 0)).setCell (p := ⟨w.heap.size, 1, none⟩) (by simp) (.int .i64 0)).setCell (p := ⟨w.heap.size, 2, none⟩) (by simp) (.int .i64 0)⟩
  · obtain ⟨N, hN⟩ : ∃ N, N = dayE y m 1 := ⟨_, rfl⟩
    rw [mayE_no hm, ← hN] at hday
    have DAY := Lib.hid hday
    clear hday hN hm h
    go_enter Tryz.func104, Tryz.ntmps104
    go_wp2_with fail
    refine DAY.out.mono ?_
    rintro e w1 ⟨rfl, hB1⟩
    have hr1 := (hB1.block w.heap.size (by simp; omega)).trans HR0.out
    have HB1 := Lib.hid (HB0.out.trans (hB1.mono (by simp; omega)))
    have a0 : w1.cell? ⟨w.heap.size, 0, none⟩ = some (.int .i64 0) := cell_of_row w1 _ 0 _ _ _ hr1
    have a1 : w1.cell? ⟨w.heap.size, 1, none⟩ = some (.int .i64 0) := cell_of_row w1 _ 1 _ _ _ hr1
    have a2 : w1.cell? ⟨w.heap.size, 2, none⟩ = some (.int .i64 0) := cell_of_row w1 _ 2 _ _ _ hr1
    have f0 := frozen_of_row w1 w.heap.size 0 _ _ hr1
    have f1 := frozen_of_row w1 w.heap.size 1 _ _ hr1
    have f2 := frozen_of_row w1 w.heap.size 2 _ _ hr1
    have HR1 := Lib.hid hr1
    clear hB1 hr1
    go_wp2
    have hrow := heap_setCell_same _ w.heap.size 2 _ _ (.int .i64 0) (heap_setCell_same _ w.heap.size 1 _ _ (.int .i64 0) (heap_setCell_same w1 w.heap.size 0 _ _ (.int .i64 0) HR1.out))
    refine bodyPost_ret (results_nth rfl rfl hrow) rfl ?_
    exact ⟨rfl, ((HB1.out.setCell (p := ⟨w.heap.size, 0, none⟩) (by simp) (.int .i64 0)).setCell (p := ⟨w.heap.size, 1, none⟩) (by simp) (.int .i64 0)).setCell (p := ⟨w.heap.size, 2, none⟩) (by simp) (.int .i64 0)⟩
set_option maxRecDepth 100000 in
set_option maxHeartbeats 4000000 in
theorem nth_def (y m wd n : Int) (hn : ¬ (n = -1 ∨ (1 ≤ n ∧ n ≤ 5))) (hm : May y m 1) (hw1 : 1 ≤ wd) (hw7 : wd ≤ 7) (w : World) (hT : Tabs w) :
    Calls Tryz.prog 104 #[.int .i64 y, .int .i64 m, .int .i64 wd, .int .i64 n] w fun e w' => e = .returned (.tuple #[dateV 0 0 0, .int .i64 60]) ∧ Below w.heap.size w w' := by
  have hb0 := ((Below.refl _ w).alloc (Nat.le_refl _) (.cells #[.int .i64 0, .int .i64 0, .int .i64 0] 111)).alloc (by simp) (.cells #[.int .i64 y, .int .i64 m, .int .i64 1] 111)
  have hr := heap_old (heap_alloc_new w (.cells #[.int .i64 0, .int .i64 0, .int .i64 0] 111)) (.cells #[.int .i64 y, .int .i64 m, .int .i64 1] 111)
  have hr2 := heap_alloc_new (w.alloc (.cells #[.int .i64 0, .int .i64 0, .int .i64 0] 111)) (.cells #[.int .i64 y, .int .i64 m, .int .i64 1] 111)
  rw [World.size_alloc] at hr2
  have HT := Lib.hid (show ∀ X, Below w.heap.size w X → Tabs X from fun X hX => hT.next hX)
  have hday := day_yes y m 1 _ (hT.next hb0) hm
  have hdb := day_bounds hm
  have hdg := dlen_ge (y := y) (m := m) hm.2.2.1 hm.2.2.2.1
  have hdl := dlen_bounds (y := y) (m := m)
  have hwkb := wkday_bounds (dayOf y m 1)
  have hwk := fun X => weekday_any (dayOf y m 1) X
  rw [wkB_in hdb.1 hdb.2] at hwk
  have n1 : (n == 1) = false := by simp; omega
  have n2 : (n == 2) = false := by simp; omega
  have n3 : (n == 3) = false := by simp; omega
  have n4 : (n == 4) = false := by simp; omega
  have n5 : (n == 5) = false := by simp; omega
  have n6 : (n == -1) = false := by simp; omega
  clear hn
  have hdays := fun X hX => days_any y m X hX
  have hF1 : nthF y m wd = 1 + (wd - wkday (dayOf y m 1) + 7) % 7 := rfl
  have hfb := nthF_bounds y m wd
  have hchk := fun d X hX => check_any y m d X hX
  have hym : 1970 ≤ y ∧ y ≤ 9999 ∧ 1 ≤ m ∧ m ≤ 12 := ⟨hm.1, hm.2.1, hm.2.2.1, hm.2.2.2.1⟩
  generalize dayOf y m 1 = N at *
  generalize wkday N = K at *
  generalize nthF y m wd = F1 at *
  have hdays2 : ∀ (X : World), Tabs X → Calls Tryz.prog 87 #[.int .i64 y, .int .i64 m] X fun e w' => e = .returned (.int .i64 (dlen y m)) ∧ X = w' := hdays
  generalize dlen y m = L at *
  have DAY := Lib.hid hday
  have WK := Lib.hid hwk
  have DAYS := Lib.hid hdays2
  have HB0 := Lib.hid hb0
  have HR0 := Lib.hid hr
  have HD0 := Lib.hid hr2
  have HF1 := Lib.hid hF1
  clear hb0 hr hr2 hday hwk hdays hdays2 hchk hT hm hF1
  go_enter Tryz.func104, Tryz.ntmps104
  go_wp2_with fail
  refine DAY.out.mono ?_
  rintro e w1 ⟨rfl, hB1⟩
  have hr1 := (hB1.block w.heap.size (by simp; omega)).trans HR0.out
  have hd1 := (hB1.block (w.heap.size + 1) (by simp)).trans HD0.out
  have HB1 := Lib.hid (HB0.out.trans (hB1.mono (by simp; omega)))
  have c2 : w1.cell? ⟨w.heap.size + 1, 2, none⟩ = some (.int .i64 1) := cell_of_row w1 _ 2 _ _ _ hd1
  have fz := frozen_of_row w1 (w.heap.size + 1) 2 _ _ hd1
  have HR1 := Lib.hid hr1
  have HD1 := Lib.hid hd1
  clear hB1 hr1 hd1 DAY HB0 HR0 HD0
  go_wp2_with fail
  have g1 : IntKind.i64.wrap (wd - K) = wd - K := by simp only [IntKind.wrap_i64, wrap64]; omega
  have g2 : IntKind.i64.wrap (wd - K + 7) = wd - K + 7 := by simp only [IntKind.wrap_i64, wrap64]; omega
  have g3 : (wd - K + 7).tmod 7 = (wd - K + 7) % 7 := Int.tmod_eq_emod_of_nonneg (by omega)
  have g4 : IntKind.i64.wrap (1 + (wd - K + 7) % 7) = F1 := by rw [HF1.out]; simp only [IntKind.wrap_i64, wrap64]; omega
  have G1 := Lib.hid g1
  have G2 := Lib.hid g2
  have G3 := Lib.hid g3
  have G4 := Lib.hid g4
  clear g1 g2 g3 g4
  have hmx : Tryz.prog.follows .mixedOrders = true := by kernel_rfl
  refine wp_region_still_tail 10 hmx (by kernel_rfl) ?_
  change wpStill _ _ w1.drew _ _ _
  simp only [List.take_succ_cons, List.take_zero, List.drop_succ_cons, List.drop_zero]
  have c2d : w1.drew.cell? ⟨w.heap.size + 1, 2, none⟩ = some (.int .i64 1) := c2
  have fzd : w1.drew.frozen? ⟨w.heap.size + 1, 2, none⟩ = false := fz
  still_step
  still_step
  still_step
  still_step
  still_call ((WK.out w1.drew).mono fun _ _ h => ⟨h.1, h.2.symm⟩)
  repeat still_step
  refine wpStill_nil ?_
  change wpList _ _ _ _ _ w1.drew
  rw [G1.out, G2.out, G3.out, G4.out]
  have xr : w1.drew.heap[w.heap.size]? = some (.cells #[.int .i64 0, .int .i64 0, .int .i64 0] 111 (0, 0)) := HR1.out
  have xd : w1.drew.heap[w.heap.size + 1]? = some (.cells #[.int .i64 y, .int .i64 m, .int .i64 1] 111 (0, 0)) := HD1.out
  have xb : Below w.heap.size w w1.drew := HB1.out.drew
  generalize w1.drew = X at *
  have d0 : X.cell? ⟨w.heap.size + 1, 0, none⟩ = some (.int .i64 y) := cell_of_row X _ 0 _ _ _ xd
  have d1 : X.cell? ⟨w.heap.size + 1, 1, none⟩ = some (.int .i64 m) := cell_of_row X _ 1 _ _ _ xd
  have XR := Lib.hid xr
  have XD := Lib.hid xd
  have XB := Lib.hid xb
  clear xr xd xb c2 fz HR1 HD1 HB1 G1 G2 G3 G4
  have hY : Below w.heap.size w (X.setCell ⟨w.heap.size + 1, 2, none⟩ (.int .i64 F1)) := XB.out.setCell (p := ⟨w.heap.size + 1, 2, none⟩) (by simp) _
  have yr := (heap_setCell_other X ⟨w.heap.size + 1, 2, none⟩ w.heap.size (.int .i64 F1) (by simp)).trans XR.out
  have r0 : (X.setCell ⟨w.heap.size + 1, 2, none⟩ (.int .i64 F1)).cell? ⟨w.heap.size, 0, none⟩ = some (.int .i64 0) := cell_of_row _ _ 0 _ _ _ yr
  have r1 : (X.setCell ⟨w.heap.size + 1, 2, none⟩ (.int .i64 F1)).cell? ⟨w.heap.size, 1, none⟩ = some (.int .i64 0) := cell_of_row _ _ 1 _ _ _ yr
  have r2 : (X.setCell ⟨w.heap.size + 1, 2, none⟩ (.int .i64 F1)).cell? ⟨w.heap.size, 2, none⟩ = some (.int .i64 0) := cell_of_row _ _ 2 _ _ _ yr
  have f0 := frozen_of_row X w.heap.size 0 _ _ XR.out
  have f1 := frozen_of_row X w.heap.size 1 _ _ XR.out
  have f2 := frozen_of_row X w.heap.size 2 _ _ XR.out
  have x0 : X.cell? ⟨w.heap.size, 0, none⟩ = some (.int .i64 0) := cell_of_row _ _ 0 _ _ _ XR.out
  have x1 : X.cell? ⟨w.heap.size, 1, none⟩ = some (.int .i64 0) := cell_of_row _ _ 1 _ _ _ XR.out
  have x2 : X.cell? ⟨w.heap.size, 2, none⟩ = some (.int .i64 0) := cell_of_row _ _ 2 _ _ _ XR.out
  have HY := Lib.hid hY
  have YR := Lib.hid yr
  clear hY yr r0 r1 r2 d0 d1
  go_wp2
  have hrow := heap_setCell_same _ w.heap.size 2 _ _ (.int .i64 0) (heap_setCell_same _ w.heap.size 1 _ _ (.int .i64 0) (heap_setCell_same _ w.heap.size 0 _ _ (.int .i64 0) YR.out))
  refine bodyPost_ret (results_nth rfl rfl hrow) rfl ?_
  exact ⟨rfl, ((HY.out.setCell (p := ⟨w.heap.size, 0, none⟩) (by simp) _).setCell (p := ⟨w.heap.size, 1, none⟩) (by simp) _).setCell (p := ⟨w.heap.size, 2, none⟩) (by simp) _⟩
set_option maxRecDepth 100000 in
set_option maxHeartbeats 4000000 in
theorem nth_1 (y m wd : Int) (hm : May y m 1) (hw1 : 1 ≤ wd) (hw7 : wd ≤ 7) (w : World) (hT : Tabs w) :
    Calls Tryz.prog 104 #[.int .i64 y, .int .i64 m, .int .i64 wd, .int .i64 1] w fun e w' => e = .returned (if nthD y m wd 1 ≤ dlen y m then .tuple #[dateV y m (nthD y m wd 1), .int .i64 0] else .tuple #[dateV 0 0 0, .int .i64 60]) ∧ Below w.heap.size w w' := by
  have hb0 := ((Below.refl _ w).alloc (Nat.le_refl _) (.cells #[.int .i64 0, .int .i64 0, .int .i64 0] 111)).alloc (by simp) (.cells #[.int .i64 y, .int .i64 m, .int .i64 1] 111)
  have hr := heap_old (heap_alloc_new w (.cells #[.int .i64 0, .int .i64 0, .int .i64 0] 111)) (.cells #[.int .i64 y, .int .i64 m, .int .i64 1] 111)
  have hr2 := heap_alloc_new (w.alloc (.cells #[.int .i64 0, .int .i64 0, .int .i64 0] 111)) (.cells #[.int .i64 y, .int .i64 m, .int .i64 1] 111)
  rw [World.size_alloc] at hr2
  have HT := Lib.hid (show ∀ X, Below w.heap.size w X → Tabs X from fun X hX => hT.next hX)
  have hday := day_yes y m 1 _ (hT.next hb0) hm
  have hdb := day_bounds hm
  have hdg := dlen_ge (y := y) (m := m) hm.2.2.1 hm.2.2.2.1
  have hdl := dlen_bounds (y := y) (m := m)
  have hwkb := wkday_bounds (dayOf y m 1)
  have hwk := fun X => weekday_any (dayOf y m 1) X
  rw [wkB_in hdb.1 hdb.2] at hwk
  have hdays := fun X hX => days_any y m X hX
  have hF1 : nthF y m wd = 1 + (wd - wkday (dayOf y m 1) + 7) % 7 := rfl
  have hfb := nthF_bounds y m wd
  have hnd : nthD y m wd 1 = nthF y m wd := by unfold nthD; rw [if_neg (by omega)]; omega
  rw [hnd]
  have hchk := fun d X hX => check_any y m d X hX
  have hmay : ∀ d, 1 ≤ d → mayE y m d = if d ≤ dlen y m then 0 else 60 := fun d hd => by
    unfold mayE
    obtain ⟨q1, q2, q3, q4, q5, q6⟩ := hm
    by_cases c : d ≤ dlen y m
    · rw [if_pos c, if_pos ⟨q1, q2, q3, q4, hd, c⟩]
    · rw [if_neg c, if_neg (fun h => c h.2.2.2.2.2)]
  have hym : 1970 ≤ y ∧ y ≤ 9999 ∧ 1 ≤ m ∧ m ≤ 12 := ⟨hm.1, hm.2.1, hm.2.2.1, hm.2.2.2.1⟩
  generalize dayOf y m 1 = N at *
  generalize wkday N = K at *
  generalize nthF y m wd = F1 at *
  have hdays2 : ∀ (X : World), Tabs X → Calls Tryz.prog 87 #[.int .i64 y, .int .i64 m] X fun e w' => e = .returned (.int .i64 (dlen y m)) ∧ X = w' := hdays
  generalize dlen y m = L at *
  have hdn : 1 ≤ F1 ∧ F1 ≤ 60 := by omega
  have hchk2 := hchk (F1)
  rw [hmay (F1) hdn.1] at hchk2
  have DAY := Lib.hid hday
  have WK := Lib.hid hwk
  have DAYS := Lib.hid hdays2
  have CHK := Lib.hid hchk2
  have HB0 := Lib.hid hb0
  have HR0 := Lib.hid hr
  have HD0 := Lib.hid hr2
  have HF1 := Lib.hid hF1
  obtain ⟨RV, hRV⟩ : ∃ v, v = (if F1 ≤ L then Value.tuple #[dateV y m (F1), .int .i64 0] else Value.tuple #[dateV 0 0 0, .int .i64 60]) := ⟨_, rfl⟩
  rw [← hRV]
  have HRV := Lib.hid hRV
  clear hb0 hr hr2 hday hwk hdays hdays2 hchk hchk2 hmay hT hm hF1 hnd hRV
  go_enter Tryz.func104, Tryz.ntmps104
  go_wp2_with fail
  refine DAY.out.mono ?_
  rintro e w1 ⟨rfl, hB1⟩
  have hr1 := (hB1.block w.heap.size (by simp; omega)).trans HR0.out
  have hd1 := (hB1.block (w.heap.size + 1) (by simp)).trans HD0.out
  have HB1 := Lib.hid (HB0.out.trans (hB1.mono (by simp; omega)))
  have c2 : w1.cell? ⟨w.heap.size + 1, 2, none⟩ = some (.int .i64 1) := cell_of_row w1 _ 2 _ _ _ hd1
  have fz := frozen_of_row w1 (w.heap.size + 1) 2 _ _ hd1
  have HR1 := Lib.hid hr1
  have HD1 := Lib.hid hd1
  clear hB1 hr1 hd1 DAY HB0 HR0 HD0
  go_wp2_with fail
  have g1 : IntKind.i64.wrap (wd - K) = wd - K := by simp only [IntKind.wrap_i64, wrap64]; omega
  have g2 : IntKind.i64.wrap (wd - K + 7) = wd - K + 7 := by simp only [IntKind.wrap_i64, wrap64]; omega
  have g3 : (wd - K + 7).tmod 7 = (wd - K + 7) % 7 := Int.tmod_eq_emod_of_nonneg (by omega)
  have g4 : IntKind.i64.wrap (1 + (wd - K + 7) % 7) = F1 := by rw [HF1.out]; simp only [IntKind.wrap_i64, wrap64]; omega
  have G1 := Lib.hid g1
  have G2 := Lib.hid g2
  have G3 := Lib.hid g3
  have G4 := Lib.hid g4
  clear g1 g2 g3 g4
  have hmx : Tryz.prog.follows .mixedOrders = true := by kernel_rfl
  refine wp_region_still_tail 10 hmx (by kernel_rfl) ?_
  change wpStill _ _ w1.drew _ _ _
  simp only [List.take_succ_cons, List.take_zero, List.drop_succ_cons, List.drop_zero]
  have c2d : w1.drew.cell? ⟨w.heap.size + 1, 2, none⟩ = some (.int .i64 1) := c2
  have fzd : w1.drew.frozen? ⟨w.heap.size + 1, 2, none⟩ = false := fz
  still_step
  still_step
  still_step
  still_step
  still_call ((WK.out w1.drew).mono fun _ _ h => ⟨h.1, h.2.symm⟩)
  repeat still_step
  refine wpStill_nil ?_
  change wpList _ _ _ _ _ w1.drew
  rw [G1.out, G2.out, G3.out, G4.out]
  have xr : w1.drew.heap[w.heap.size]? = some (.cells #[.int .i64 0, .int .i64 0, .int .i64 0] 111 (0, 0)) := HR1.out
  have xd : w1.drew.heap[w.heap.size + 1]? = some (.cells #[.int .i64 y, .int .i64 m, .int .i64 1] 111 (0, 0)) := HD1.out
  have xb : Below w.heap.size w w1.drew := HB1.out.drew
  generalize w1.drew = X at *
  have d0 : X.cell? ⟨w.heap.size + 1, 0, none⟩ = some (.int .i64 y) := cell_of_row X _ 0 _ _ _ xd
  have d1 : X.cell? ⟨w.heap.size + 1, 1, none⟩ = some (.int .i64 m) := cell_of_row X _ 1 _ _ _ xd
  have XR := Lib.hid xr
  have XD := Lib.hid xd
  have XB := Lib.hid xb
  clear xr xd xb c2 fz HR1 HD1 HB1 G1 G2 G3 G4
  have hA : ((X.setCell ⟨w.heap.size + 1, 2, none⟩ (.int .i64 F1)).setCell ⟨w.heap.size + 1, 2, none⟩ (.int .i64 (F1))).cell? ⟨w.heap.size + 1, 2, none⟩ = some (.int .i64 (F1)) :=
    World.cell?_setCell_same _ _ _ (World.cell?_setCell_same _ _ _ c2d)
  have hY : Below w.heap.size w ((X.setCell ⟨w.heap.size + 1, 2, none⟩ (.int .i64 F1)).setCell ⟨w.heap.size + 1, 2, none⟩ (.int .i64 (F1))) := (XB.out.setCell (p := ⟨w.heap.size + 1, 2, none⟩) (by simp) _).setCell (p := ⟨w.heap.size + 1, 2, none⟩) (by simp) _
  have hYr := (heap_setCell_other (X.setCell ⟨w.heap.size + 1, 2, none⟩ (.int .i64 F1)) ⟨w.heap.size + 1, 2, none⟩ w.heap.size (.int .i64 (F1)) (by simp)).trans ((heap_setCell_other X ⟨w.heap.size + 1, 2, none⟩ w.heap.size (.int .i64 F1) (by simp)).trans XR.out)
  have hYd := heap_setCell_same _ (w.heap.size + 1) 2 _ _ (.int .i64 (F1)) (heap_setCell_same X (w.heap.size + 1) 2 _ _ (.int .i64 F1) XD.out)
  have HY := Lib.hid hY
  have HYR := Lib.hid hYr
  have HYD := Lib.hid hYd
  clear hY hYr hYd
  go_wp2_with fail
  generalize hYY : ((X.setCell ⟨w.heap.size + 1, 2, none⟩ (.int .i64 F1)).setCell ⟨w.heap.size + 1, 2, none⟩ (.int .i64 (F1))) = Y at *
  refine (CHK.out _ (HT.out _ HY.out)).mono ?_
  rintro e w2 ⟨rfl, hB2⟩
  have hlt : w.heap.size + 1 < Y.heap.size := (Array.getElem?_eq_some_iff.1 HYD.out).1
  have yr := (hB2.block w.heap.size (by omega)).trans HYR.out
  have yd := (hB2.block (w.heap.size + 1) hlt).trans HYD.out
  have yb := HY.out.trans (hB2.mono HY.out.size)
  have r0 : w2.cell? ⟨w.heap.size, 0, none⟩ = some (.int .i64 0) := cell_of_row w2 _ 0 _ _ _ yr
  have r1 : w2.cell? ⟨w.heap.size, 1, none⟩ = some (.int .i64 0) := cell_of_row w2 _ 1 _ _ _ yr
  have r2 : w2.cell? ⟨w.heap.size, 2, none⟩ = some (.int .i64 0) := cell_of_row w2 _ 2 _ _ _ yr
  have f0 := frozen_of_row w2 w.heap.size 0 _ _ yr
  have f1 := frozen_of_row w2 w.heap.size 1 _ _ yr
  have f2 := frozen_of_row w2 w.heap.size 2 _ _ yr
  have e0 : w2.cell? ⟨w.heap.size + 1, 0, none⟩ = some (.int .i64 y) := cell_of_row w2 _ 0 _ _ _ yd
  have e1 : w2.cell? ⟨w.heap.size + 1, 1, none⟩ = some (.int .i64 m) := cell_of_row w2 _ 1 _ _ _ yd
  have e2 : w2.cell? ⟨w.heap.size + 1, 2, none⟩ = some (.int .i64 (F1)) := cell_of_row w2 _ 2 _ _ _ yd
  have YR := Lib.hid yr
  have YB := Lib.hid yb
  clear hB2 yr yd yb HYR HYD HY CHK hYY d0 d1 c2d fzd hA
  by_cases hle : F1 ≤ L
  · rw [if_pos hle]
    have HLE := Lib.hid hle
    clear hle
    go_wp2
    have hrow := heap_setCell_same _ w.heap.size 2 _ _ (.int .i64 (F1)) (heap_setCell_same _ w.heap.size 1 _ _ (.int .i64 m) (heap_setCell_same w2 w.heap.size 0 _ _ (.int .i64 y) YR.out))
    refine bodyPost_ret (results_nth rfl rfl hrow) rfl ?_
    exact ⟨by rw [HRV.out, if_pos (by have := HLE.out; omega)], ((YB.out.setCell (p := ⟨w.heap.size, 0, none⟩) (by simp) _).setCell (p := ⟨w.heap.size, 1, none⟩) (by simp) _).setCell (p := ⟨w.heap.size, 2, none⟩) (by simp) _⟩
  · rw [if_neg hle]
    have HLE := Lib.hid hle
    clear hle
    go_wp2
    have hrow := heap_setCell_same _ w.heap.size 2 _ _ (.int .i64 0) (heap_setCell_same _ w.heap.size 1 _ _ (.int .i64 0) (heap_setCell_same w2 w.heap.size 0 _ _ (.int .i64 0) YR.out))
    refine bodyPost_ret (results_nth rfl rfl hrow) rfl ?_
    exact ⟨by rw [HRV.out, if_neg (by have := HLE.out; omega)], ((YB.out.setCell (p := ⟨w.heap.size, 0, none⟩) (by simp) _).setCell (p := ⟨w.heap.size, 1, none⟩) (by simp) _).setCell (p := ⟨w.heap.size, 2, none⟩) (by simp) _⟩
set_option maxRecDepth 100000 in
set_option maxHeartbeats 4000000 in
theorem nth_2 (y m wd : Int) (hm : May y m 1) (hw1 : 1 ≤ wd) (hw7 : wd ≤ 7) (w : World) (hT : Tabs w) :
    Calls Tryz.prog 104 #[.int .i64 y, .int .i64 m, .int .i64 wd, .int .i64 2] w fun e w' => e = .returned (if nthD y m wd 2 ≤ dlen y m then .tuple #[dateV y m (nthD y m wd 2), .int .i64 0] else .tuple #[dateV 0 0 0, .int .i64 60]) ∧ Below w.heap.size w w' := by
  have hb0 := ((Below.refl _ w).alloc (Nat.le_refl _) (.cells #[.int .i64 0, .int .i64 0, .int .i64 0] 111)).alloc (by simp) (.cells #[.int .i64 y, .int .i64 m, .int .i64 1] 111)
  have hr := heap_old (heap_alloc_new w (.cells #[.int .i64 0, .int .i64 0, .int .i64 0] 111)) (.cells #[.int .i64 y, .int .i64 m, .int .i64 1] 111)
  have hr2 := heap_alloc_new (w.alloc (.cells #[.int .i64 0, .int .i64 0, .int .i64 0] 111)) (.cells #[.int .i64 y, .int .i64 m, .int .i64 1] 111)
  rw [World.size_alloc] at hr2
  have HT := Lib.hid (show ∀ X, Below w.heap.size w X → Tabs X from fun X hX => hT.next hX)
  have hday := day_yes y m 1 _ (hT.next hb0) hm
  have hdb := day_bounds hm
  have hdg := dlen_ge (y := y) (m := m) hm.2.2.1 hm.2.2.2.1
  have hdl := dlen_bounds (y := y) (m := m)
  have hwkb := wkday_bounds (dayOf y m 1)
  have hwk := fun X => weekday_any (dayOf y m 1) X
  rw [wkB_in hdb.1 hdb.2] at hwk
  have hdays := fun X hX => days_any y m X hX
  have hF1 : nthF y m wd = 1 + (wd - wkday (dayOf y m 1) + 7) % 7 := rfl
  have hfb := nthF_bounds y m wd
  have hnd : nthD y m wd 2 = nthF y m wd + 7 := by unfold nthD; rw [if_neg (by omega)]; omega
  rw [hnd]
  have hchk := fun d X hX => check_any y m d X hX
  have hmay : ∀ d, 1 ≤ d → mayE y m d = if d ≤ dlen y m then 0 else 60 := fun d hd => by
    unfold mayE
    obtain ⟨q1, q2, q3, q4, q5, q6⟩ := hm
    by_cases c : d ≤ dlen y m
    · rw [if_pos c, if_pos ⟨q1, q2, q3, q4, hd, c⟩]
    · rw [if_neg c, if_neg (fun h => c h.2.2.2.2.2)]
  have hym : 1970 ≤ y ∧ y ≤ 9999 ∧ 1 ≤ m ∧ m ≤ 12 := ⟨hm.1, hm.2.1, hm.2.2.1, hm.2.2.2.1⟩
  generalize dayOf y m 1 = N at *
  generalize wkday N = K at *
  generalize nthF y m wd = F1 at *
  have hdays2 : ∀ (X : World), Tabs X → Calls Tryz.prog 87 #[.int .i64 y, .int .i64 m] X fun e w' => e = .returned (.int .i64 (dlen y m)) ∧ X = w' := hdays
  generalize dlen y m = L at *
  have hdn : 1 ≤ F1 + 7 ∧ F1 + 7 ≤ 60 := by omega
  have hchk2 := hchk (F1 + 7)
  rw [hmay (F1 + 7) hdn.1] at hchk2
  have DAY := Lib.hid hday
  have WK := Lib.hid hwk
  have DAYS := Lib.hid hdays2
  have CHK := Lib.hid hchk2
  have HB0 := Lib.hid hb0
  have HR0 := Lib.hid hr
  have HD0 := Lib.hid hr2
  have HF1 := Lib.hid hF1
  obtain ⟨RV, hRV⟩ : ∃ v, v = (if F1 + 7 ≤ L then Value.tuple #[dateV y m (F1 + 7), .int .i64 0] else Value.tuple #[dateV 0 0 0, .int .i64 60]) := ⟨_, rfl⟩
  rw [← hRV]
  have HRV := Lib.hid hRV
  clear hb0 hr hr2 hday hwk hdays hdays2 hchk hchk2 hmay hT hm hF1 hnd hRV
  go_enter Tryz.func104, Tryz.ntmps104
  go_wp2_with fail
  refine DAY.out.mono ?_
  rintro e w1 ⟨rfl, hB1⟩
  have hr1 := (hB1.block w.heap.size (by simp; omega)).trans HR0.out
  have hd1 := (hB1.block (w.heap.size + 1) (by simp)).trans HD0.out
  have HB1 := Lib.hid (HB0.out.trans (hB1.mono (by simp; omega)))
  have c2 : w1.cell? ⟨w.heap.size + 1, 2, none⟩ = some (.int .i64 1) := cell_of_row w1 _ 2 _ _ _ hd1
  have fz := frozen_of_row w1 (w.heap.size + 1) 2 _ _ hd1
  have HR1 := Lib.hid hr1
  have HD1 := Lib.hid hd1
  clear hB1 hr1 hd1 DAY HB0 HR0 HD0
  go_wp2_with fail
  have g1 : IntKind.i64.wrap (wd - K) = wd - K := by simp only [IntKind.wrap_i64, wrap64]; omega
  have g2 : IntKind.i64.wrap (wd - K + 7) = wd - K + 7 := by simp only [IntKind.wrap_i64, wrap64]; omega
  have g3 : (wd - K + 7).tmod 7 = (wd - K + 7) % 7 := Int.tmod_eq_emod_of_nonneg (by omega)
  have g4 : IntKind.i64.wrap (1 + (wd - K + 7) % 7) = F1 := by rw [HF1.out]; simp only [IntKind.wrap_i64, wrap64]; omega
  have G1 := Lib.hid g1
  have G2 := Lib.hid g2
  have G3 := Lib.hid g3
  have G4 := Lib.hid g4
  clear g1 g2 g3 g4
  have hmx : Tryz.prog.follows .mixedOrders = true := by kernel_rfl
  refine wp_region_still_tail 10 hmx (by kernel_rfl) ?_
  change wpStill _ _ w1.drew _ _ _
  simp only [List.take_succ_cons, List.take_zero, List.drop_succ_cons, List.drop_zero]
  have c2d : w1.drew.cell? ⟨w.heap.size + 1, 2, none⟩ = some (.int .i64 1) := c2
  have fzd : w1.drew.frozen? ⟨w.heap.size + 1, 2, none⟩ = false := fz
  still_step
  still_step
  still_step
  still_step
  still_call ((WK.out w1.drew).mono fun _ _ h => ⟨h.1, h.2.symm⟩)
  repeat still_step
  refine wpStill_nil ?_
  change wpList _ _ _ _ _ w1.drew
  rw [G1.out, G2.out, G3.out, G4.out]
  have xr : w1.drew.heap[w.heap.size]? = some (.cells #[.int .i64 0, .int .i64 0, .int .i64 0] 111 (0, 0)) := HR1.out
  have xd : w1.drew.heap[w.heap.size + 1]? = some (.cells #[.int .i64 y, .int .i64 m, .int .i64 1] 111 (0, 0)) := HD1.out
  have xb : Below w.heap.size w w1.drew := HB1.out.drew
  generalize w1.drew = X at *
  have d0 : X.cell? ⟨w.heap.size + 1, 0, none⟩ = some (.int .i64 y) := cell_of_row X _ 0 _ _ _ xd
  have d1 : X.cell? ⟨w.heap.size + 1, 1, none⟩ = some (.int .i64 m) := cell_of_row X _ 1 _ _ _ xd
  have XR := Lib.hid xr
  have XD := Lib.hid xd
  have XB := Lib.hid xb
  clear xr xd xb c2 fz HR1 HD1 HB1 G1 G2 G3 G4
  have hA : ((X.setCell ⟨w.heap.size + 1, 2, none⟩ (.int .i64 F1)).setCell ⟨w.heap.size + 1, 2, none⟩ (.int .i64 (F1 + 7))).cell? ⟨w.heap.size + 1, 2, none⟩ = some (.int .i64 (F1 + 7)) :=
    World.cell?_setCell_same _ _ _ (World.cell?_setCell_same _ _ _ c2d)
  have hY : Below w.heap.size w ((X.setCell ⟨w.heap.size + 1, 2, none⟩ (.int .i64 F1)).setCell ⟨w.heap.size + 1, 2, none⟩ (.int .i64 (F1 + 7))) := (XB.out.setCell (p := ⟨w.heap.size + 1, 2, none⟩) (by simp) _).setCell (p := ⟨w.heap.size + 1, 2, none⟩) (by simp) _
  have hYr := (heap_setCell_other (X.setCell ⟨w.heap.size + 1, 2, none⟩ (.int .i64 F1)) ⟨w.heap.size + 1, 2, none⟩ w.heap.size (.int .i64 (F1 + 7)) (by simp)).trans ((heap_setCell_other X ⟨w.heap.size + 1, 2, none⟩ w.heap.size (.int .i64 F1) (by simp)).trans XR.out)
  have hYd := heap_setCell_same _ (w.heap.size + 1) 2 _ _ (.int .i64 (F1 + 7)) (heap_setCell_same X (w.heap.size + 1) 2 _ _ (.int .i64 F1) XD.out)
  have HY := Lib.hid hY
  have HYR := Lib.hid hYr
  have HYD := Lib.hid hYd
  clear hY hYr hYd
  go_wp2_with fail
  generalize hYY : ((X.setCell ⟨w.heap.size + 1, 2, none⟩ (.int .i64 F1)).setCell ⟨w.heap.size + 1, 2, none⟩ (.int .i64 (F1 + 7))) = Y at *
  refine (CHK.out _ (HT.out _ HY.out)).mono ?_
  rintro e w2 ⟨rfl, hB2⟩
  have hlt : w.heap.size + 1 < Y.heap.size := (Array.getElem?_eq_some_iff.1 HYD.out).1
  have yr := (hB2.block w.heap.size (by omega)).trans HYR.out
  have yd := (hB2.block (w.heap.size + 1) hlt).trans HYD.out
  have yb := HY.out.trans (hB2.mono HY.out.size)
  have r0 : w2.cell? ⟨w.heap.size, 0, none⟩ = some (.int .i64 0) := cell_of_row w2 _ 0 _ _ _ yr
  have r1 : w2.cell? ⟨w.heap.size, 1, none⟩ = some (.int .i64 0) := cell_of_row w2 _ 1 _ _ _ yr
  have r2 : w2.cell? ⟨w.heap.size, 2, none⟩ = some (.int .i64 0) := cell_of_row w2 _ 2 _ _ _ yr
  have f0 := frozen_of_row w2 w.heap.size 0 _ _ yr
  have f1 := frozen_of_row w2 w.heap.size 1 _ _ yr
  have f2 := frozen_of_row w2 w.heap.size 2 _ _ yr
  have e0 : w2.cell? ⟨w.heap.size + 1, 0, none⟩ = some (.int .i64 y) := cell_of_row w2 _ 0 _ _ _ yd
  have e1 : w2.cell? ⟨w.heap.size + 1, 1, none⟩ = some (.int .i64 m) := cell_of_row w2 _ 1 _ _ _ yd
  have e2 : w2.cell? ⟨w.heap.size + 1, 2, none⟩ = some (.int .i64 (F1 + 7)) := cell_of_row w2 _ 2 _ _ _ yd
  have YR := Lib.hid yr
  have YB := Lib.hid yb
  clear hB2 yr yd yb HYR HYD HY CHK hYY d0 d1 c2d fzd hA
  by_cases hle : F1 + 7 ≤ L
  · rw [if_pos hle]
    have HLE := Lib.hid hle
    clear hle
    go_wp2
    have hrow := heap_setCell_same _ w.heap.size 2 _ _ (.int .i64 (F1 + 7)) (heap_setCell_same _ w.heap.size 1 _ _ (.int .i64 m) (heap_setCell_same w2 w.heap.size 0 _ _ (.int .i64 y) YR.out))
    refine bodyPost_ret (results_nth rfl rfl hrow) rfl ?_
    exact ⟨by rw [HRV.out, if_pos (by have := HLE.out; omega)], ((YB.out.setCell (p := ⟨w.heap.size, 0, none⟩) (by simp) _).setCell (p := ⟨w.heap.size, 1, none⟩) (by simp) _).setCell (p := ⟨w.heap.size, 2, none⟩) (by simp) _⟩
  · rw [if_neg hle]
    have HLE := Lib.hid hle
    clear hle
    go_wp2
    have hrow := heap_setCell_same _ w.heap.size 2 _ _ (.int .i64 0) (heap_setCell_same _ w.heap.size 1 _ _ (.int .i64 0) (heap_setCell_same w2 w.heap.size 0 _ _ (.int .i64 0) YR.out))
    refine bodyPost_ret (results_nth rfl rfl hrow) rfl ?_
    exact ⟨by rw [HRV.out, if_neg (by have := HLE.out; omega)], ((YB.out.setCell (p := ⟨w.heap.size, 0, none⟩) (by simp) _).setCell (p := ⟨w.heap.size, 1, none⟩) (by simp) _).setCell (p := ⟨w.heap.size, 2, none⟩) (by simp) _⟩
set_option maxRecDepth 100000 in
set_option maxHeartbeats 4000000 in
theorem nth_3 (y m wd : Int) (hm : May y m 1) (hw1 : 1 ≤ wd) (hw7 : wd ≤ 7) (w : World) (hT : Tabs w) :
    Calls Tryz.prog 104 #[.int .i64 y, .int .i64 m, .int .i64 wd, .int .i64 3] w fun e w' => e = .returned (if nthD y m wd 3 ≤ dlen y m then .tuple #[dateV y m (nthD y m wd 3), .int .i64 0] else .tuple #[dateV 0 0 0, .int .i64 60]) ∧ Below w.heap.size w w' := by
  have hb0 := ((Below.refl _ w).alloc (Nat.le_refl _) (.cells #[.int .i64 0, .int .i64 0, .int .i64 0] 111)).alloc (by simp) (.cells #[.int .i64 y, .int .i64 m, .int .i64 1] 111)
  have hr := heap_old (heap_alloc_new w (.cells #[.int .i64 0, .int .i64 0, .int .i64 0] 111)) (.cells #[.int .i64 y, .int .i64 m, .int .i64 1] 111)
  have hr2 := heap_alloc_new (w.alloc (.cells #[.int .i64 0, .int .i64 0, .int .i64 0] 111)) (.cells #[.int .i64 y, .int .i64 m, .int .i64 1] 111)
  rw [World.size_alloc] at hr2
  have HT := Lib.hid (show ∀ X, Below w.heap.size w X → Tabs X from fun X hX => hT.next hX)
  have hday := day_yes y m 1 _ (hT.next hb0) hm
  have hdb := day_bounds hm
  have hdg := dlen_ge (y := y) (m := m) hm.2.2.1 hm.2.2.2.1
  have hdl := dlen_bounds (y := y) (m := m)
  have hwkb := wkday_bounds (dayOf y m 1)
  have hwk := fun X => weekday_any (dayOf y m 1) X
  rw [wkB_in hdb.1 hdb.2] at hwk
  have hdays := fun X hX => days_any y m X hX
  have hF1 : nthF y m wd = 1 + (wd - wkday (dayOf y m 1) + 7) % 7 := rfl
  have hfb := nthF_bounds y m wd
  have hnd : nthD y m wd 3 = nthF y m wd + 14 := by unfold nthD; rw [if_neg (by omega)]; omega
  rw [hnd]
  have hchk := fun d X hX => check_any y m d X hX
  have hmay : ∀ d, 1 ≤ d → mayE y m d = if d ≤ dlen y m then 0 else 60 := fun d hd => by
    unfold mayE
    obtain ⟨q1, q2, q3, q4, q5, q6⟩ := hm
    by_cases c : d ≤ dlen y m
    · rw [if_pos c, if_pos ⟨q1, q2, q3, q4, hd, c⟩]
    · rw [if_neg c, if_neg (fun h => c h.2.2.2.2.2)]
  have hym : 1970 ≤ y ∧ y ≤ 9999 ∧ 1 ≤ m ∧ m ≤ 12 := ⟨hm.1, hm.2.1, hm.2.2.1, hm.2.2.2.1⟩
  generalize dayOf y m 1 = N at *
  generalize wkday N = K at *
  generalize nthF y m wd = F1 at *
  have hdays2 : ∀ (X : World), Tabs X → Calls Tryz.prog 87 #[.int .i64 y, .int .i64 m] X fun e w' => e = .returned (.int .i64 (dlen y m)) ∧ X = w' := hdays
  generalize dlen y m = L at *
  have hdn : 1 ≤ F1 + 14 ∧ F1 + 14 ≤ 60 := by omega
  have hchk2 := hchk (F1 + 14)
  rw [hmay (F1 + 14) hdn.1] at hchk2
  have DAY := Lib.hid hday
  have WK := Lib.hid hwk
  have DAYS := Lib.hid hdays2
  have CHK := Lib.hid hchk2
  have HB0 := Lib.hid hb0
  have HR0 := Lib.hid hr
  have HD0 := Lib.hid hr2
  have HF1 := Lib.hid hF1
  obtain ⟨RV, hRV⟩ : ∃ v, v = (if F1 + 14 ≤ L then Value.tuple #[dateV y m (F1 + 14), .int .i64 0] else Value.tuple #[dateV 0 0 0, .int .i64 60]) := ⟨_, rfl⟩
  rw [← hRV]
  have HRV := Lib.hid hRV
  clear hb0 hr hr2 hday hwk hdays hdays2 hchk hchk2 hmay hT hm hF1 hnd hRV
  go_enter Tryz.func104, Tryz.ntmps104
  go_wp2_with fail
  refine DAY.out.mono ?_
  rintro e w1 ⟨rfl, hB1⟩
  have hr1 := (hB1.block w.heap.size (by simp; omega)).trans HR0.out
  have hd1 := (hB1.block (w.heap.size + 1) (by simp)).trans HD0.out
  have HB1 := Lib.hid (HB0.out.trans (hB1.mono (by simp; omega)))
  have c2 : w1.cell? ⟨w.heap.size + 1, 2, none⟩ = some (.int .i64 1) := cell_of_row w1 _ 2 _ _ _ hd1
  have fz := frozen_of_row w1 (w.heap.size + 1) 2 _ _ hd1
  have HR1 := Lib.hid hr1
  have HD1 := Lib.hid hd1
  clear hB1 hr1 hd1 DAY HB0 HR0 HD0
  go_wp2_with fail
  have g1 : IntKind.i64.wrap (wd - K) = wd - K := by simp only [IntKind.wrap_i64, wrap64]; omega
  have g2 : IntKind.i64.wrap (wd - K + 7) = wd - K + 7 := by simp only [IntKind.wrap_i64, wrap64]; omega
  have g3 : (wd - K + 7).tmod 7 = (wd - K + 7) % 7 := Int.tmod_eq_emod_of_nonneg (by omega)
  have g4 : IntKind.i64.wrap (1 + (wd - K + 7) % 7) = F1 := by rw [HF1.out]; simp only [IntKind.wrap_i64, wrap64]; omega
  have G1 := Lib.hid g1
  have G2 := Lib.hid g2
  have G3 := Lib.hid g3
  have G4 := Lib.hid g4
  clear g1 g2 g3 g4
  have hmx : Tryz.prog.follows .mixedOrders = true := by kernel_rfl
  refine wp_region_still_tail 10 hmx (by kernel_rfl) ?_
  change wpStill _ _ w1.drew _ _ _
  simp only [List.take_succ_cons, List.take_zero, List.drop_succ_cons, List.drop_zero]
  have c2d : w1.drew.cell? ⟨w.heap.size + 1, 2, none⟩ = some (.int .i64 1) := c2
  have fzd : w1.drew.frozen? ⟨w.heap.size + 1, 2, none⟩ = false := fz
  still_step
  still_step
  still_step
  still_step
  still_call ((WK.out w1.drew).mono fun _ _ h => ⟨h.1, h.2.symm⟩)
  repeat still_step
  refine wpStill_nil ?_
  change wpList _ _ _ _ _ w1.drew
  rw [G1.out, G2.out, G3.out, G4.out]
  have xr : w1.drew.heap[w.heap.size]? = some (.cells #[.int .i64 0, .int .i64 0, .int .i64 0] 111 (0, 0)) := HR1.out
  have xd : w1.drew.heap[w.heap.size + 1]? = some (.cells #[.int .i64 y, .int .i64 m, .int .i64 1] 111 (0, 0)) := HD1.out
  have xb : Below w.heap.size w w1.drew := HB1.out.drew
  generalize w1.drew = X at *
  have d0 : X.cell? ⟨w.heap.size + 1, 0, none⟩ = some (.int .i64 y) := cell_of_row X _ 0 _ _ _ xd
  have d1 : X.cell? ⟨w.heap.size + 1, 1, none⟩ = some (.int .i64 m) := cell_of_row X _ 1 _ _ _ xd
  have XR := Lib.hid xr
  have XD := Lib.hid xd
  have XB := Lib.hid xb
  clear xr xd xb c2 fz HR1 HD1 HB1 G1 G2 G3 G4
  have hA : ((X.setCell ⟨w.heap.size + 1, 2, none⟩ (.int .i64 F1)).setCell ⟨w.heap.size + 1, 2, none⟩ (.int .i64 (F1 + 14))).cell? ⟨w.heap.size + 1, 2, none⟩ = some (.int .i64 (F1 + 14)) :=
    World.cell?_setCell_same _ _ _ (World.cell?_setCell_same _ _ _ c2d)
  have hY : Below w.heap.size w ((X.setCell ⟨w.heap.size + 1, 2, none⟩ (.int .i64 F1)).setCell ⟨w.heap.size + 1, 2, none⟩ (.int .i64 (F1 + 14))) := (XB.out.setCell (p := ⟨w.heap.size + 1, 2, none⟩) (by simp) _).setCell (p := ⟨w.heap.size + 1, 2, none⟩) (by simp) _
  have hYr := (heap_setCell_other (X.setCell ⟨w.heap.size + 1, 2, none⟩ (.int .i64 F1)) ⟨w.heap.size + 1, 2, none⟩ w.heap.size (.int .i64 (F1 + 14)) (by simp)).trans ((heap_setCell_other X ⟨w.heap.size + 1, 2, none⟩ w.heap.size (.int .i64 F1) (by simp)).trans XR.out)
  have hYd := heap_setCell_same _ (w.heap.size + 1) 2 _ _ (.int .i64 (F1 + 14)) (heap_setCell_same X (w.heap.size + 1) 2 _ _ (.int .i64 F1) XD.out)
  have HY := Lib.hid hY
  have HYR := Lib.hid hYr
  have HYD := Lib.hid hYd
  clear hY hYr hYd
  go_wp2_with fail
  generalize hYY : ((X.setCell ⟨w.heap.size + 1, 2, none⟩ (.int .i64 F1)).setCell ⟨w.heap.size + 1, 2, none⟩ (.int .i64 (F1 + 14))) = Y at *
  refine (CHK.out _ (HT.out _ HY.out)).mono ?_
  rintro e w2 ⟨rfl, hB2⟩
  have hlt : w.heap.size + 1 < Y.heap.size := (Array.getElem?_eq_some_iff.1 HYD.out).1
  have yr := (hB2.block w.heap.size (by omega)).trans HYR.out
  have yd := (hB2.block (w.heap.size + 1) hlt).trans HYD.out
  have yb := HY.out.trans (hB2.mono HY.out.size)
  have r0 : w2.cell? ⟨w.heap.size, 0, none⟩ = some (.int .i64 0) := cell_of_row w2 _ 0 _ _ _ yr
  have r1 : w2.cell? ⟨w.heap.size, 1, none⟩ = some (.int .i64 0) := cell_of_row w2 _ 1 _ _ _ yr
  have r2 : w2.cell? ⟨w.heap.size, 2, none⟩ = some (.int .i64 0) := cell_of_row w2 _ 2 _ _ _ yr
  have f0 := frozen_of_row w2 w.heap.size 0 _ _ yr
  have f1 := frozen_of_row w2 w.heap.size 1 _ _ yr
  have f2 := frozen_of_row w2 w.heap.size 2 _ _ yr
  have e0 : w2.cell? ⟨w.heap.size + 1, 0, none⟩ = some (.int .i64 y) := cell_of_row w2 _ 0 _ _ _ yd
  have e1 : w2.cell? ⟨w.heap.size + 1, 1, none⟩ = some (.int .i64 m) := cell_of_row w2 _ 1 _ _ _ yd
  have e2 : w2.cell? ⟨w.heap.size + 1, 2, none⟩ = some (.int .i64 (F1 + 14)) := cell_of_row w2 _ 2 _ _ _ yd
  have YR := Lib.hid yr
  have YB := Lib.hid yb
  clear hB2 yr yd yb HYR HYD HY CHK hYY d0 d1 c2d fzd hA
  by_cases hle : F1 + 14 ≤ L
  · rw [if_pos hle]
    have HLE := Lib.hid hle
    clear hle
    go_wp2
    have hrow := heap_setCell_same _ w.heap.size 2 _ _ (.int .i64 (F1 + 14)) (heap_setCell_same _ w.heap.size 1 _ _ (.int .i64 m) (heap_setCell_same w2 w.heap.size 0 _ _ (.int .i64 y) YR.out))
    refine bodyPost_ret (results_nth rfl rfl hrow) rfl ?_
    exact ⟨by rw [HRV.out, if_pos (by have := HLE.out; omega)], ((YB.out.setCell (p := ⟨w.heap.size, 0, none⟩) (by simp) _).setCell (p := ⟨w.heap.size, 1, none⟩) (by simp) _).setCell (p := ⟨w.heap.size, 2, none⟩) (by simp) _⟩
  · rw [if_neg hle]
    have HLE := Lib.hid hle
    clear hle
    go_wp2
    have hrow := heap_setCell_same _ w.heap.size 2 _ _ (.int .i64 0) (heap_setCell_same _ w.heap.size 1 _ _ (.int .i64 0) (heap_setCell_same w2 w.heap.size 0 _ _ (.int .i64 0) YR.out))
    refine bodyPost_ret (results_nth rfl rfl hrow) rfl ?_
    exact ⟨by rw [HRV.out, if_neg (by have := HLE.out; omega)], ((YB.out.setCell (p := ⟨w.heap.size, 0, none⟩) (by simp) _).setCell (p := ⟨w.heap.size, 1, none⟩) (by simp) _).setCell (p := ⟨w.heap.size, 2, none⟩) (by simp) _⟩
set_option maxRecDepth 100000 in
set_option maxHeartbeats 4000000 in
theorem nth_4 (y m wd : Int) (hm : May y m 1) (hw1 : 1 ≤ wd) (hw7 : wd ≤ 7) (w : World) (hT : Tabs w) :
    Calls Tryz.prog 104 #[.int .i64 y, .int .i64 m, .int .i64 wd, .int .i64 4] w fun e w' => e = .returned (if nthD y m wd 4 ≤ dlen y m then .tuple #[dateV y m (nthD y m wd 4), .int .i64 0] else .tuple #[dateV 0 0 0, .int .i64 60]) ∧ Below w.heap.size w w' := by
  have hb0 := ((Below.refl _ w).alloc (Nat.le_refl _) (.cells #[.int .i64 0, .int .i64 0, .int .i64 0] 111)).alloc (by simp) (.cells #[.int .i64 y, .int .i64 m, .int .i64 1] 111)
  have hr := heap_old (heap_alloc_new w (.cells #[.int .i64 0, .int .i64 0, .int .i64 0] 111)) (.cells #[.int .i64 y, .int .i64 m, .int .i64 1] 111)
  have hr2 := heap_alloc_new (w.alloc (.cells #[.int .i64 0, .int .i64 0, .int .i64 0] 111)) (.cells #[.int .i64 y, .int .i64 m, .int .i64 1] 111)
  rw [World.size_alloc] at hr2
  have HT := Lib.hid (show ∀ X, Below w.heap.size w X → Tabs X from fun X hX => hT.next hX)
  have hday := day_yes y m 1 _ (hT.next hb0) hm
  have hdb := day_bounds hm
  have hdg := dlen_ge (y := y) (m := m) hm.2.2.1 hm.2.2.2.1
  have hdl := dlen_bounds (y := y) (m := m)
  have hwkb := wkday_bounds (dayOf y m 1)
  have hwk := fun X => weekday_any (dayOf y m 1) X
  rw [wkB_in hdb.1 hdb.2] at hwk
  have hdays := fun X hX => days_any y m X hX
  have hF1 : nthF y m wd = 1 + (wd - wkday (dayOf y m 1) + 7) % 7 := rfl
  have hfb := nthF_bounds y m wd
  have hnd : nthD y m wd 4 = nthF y m wd + 21 := by unfold nthD; rw [if_neg (by omega)]; omega
  rw [hnd]
  have hchk := fun d X hX => check_any y m d X hX
  have hmay : ∀ d, 1 ≤ d → mayE y m d = if d ≤ dlen y m then 0 else 60 := fun d hd => by
    unfold mayE
    obtain ⟨q1, q2, q3, q4, q5, q6⟩ := hm
    by_cases c : d ≤ dlen y m
    · rw [if_pos c, if_pos ⟨q1, q2, q3, q4, hd, c⟩]
    · rw [if_neg c, if_neg (fun h => c h.2.2.2.2.2)]
  have hym : 1970 ≤ y ∧ y ≤ 9999 ∧ 1 ≤ m ∧ m ≤ 12 := ⟨hm.1, hm.2.1, hm.2.2.1, hm.2.2.2.1⟩
  generalize dayOf y m 1 = N at *
  generalize wkday N = K at *
  generalize nthF y m wd = F1 at *
  have hdays2 : ∀ (X : World), Tabs X → Calls Tryz.prog 87 #[.int .i64 y, .int .i64 m] X fun e w' => e = .returned (.int .i64 (dlen y m)) ∧ X = w' := hdays
  generalize dlen y m = L at *
  have hdn : 1 ≤ F1 + 21 ∧ F1 + 21 ≤ 60 := by omega
  have hchk2 := hchk (F1 + 21)
  rw [hmay (F1 + 21) hdn.1] at hchk2
  have DAY := Lib.hid hday
  have WK := Lib.hid hwk
  have DAYS := Lib.hid hdays2
  have CHK := Lib.hid hchk2
  have HB0 := Lib.hid hb0
  have HR0 := Lib.hid hr
  have HD0 := Lib.hid hr2
  have HF1 := Lib.hid hF1
  obtain ⟨RV, hRV⟩ : ∃ v, v = (if F1 + 21 ≤ L then Value.tuple #[dateV y m (F1 + 21), .int .i64 0] else Value.tuple #[dateV 0 0 0, .int .i64 60]) := ⟨_, rfl⟩
  rw [← hRV]
  have HRV := Lib.hid hRV
  clear hb0 hr hr2 hday hwk hdays hdays2 hchk hchk2 hmay hT hm hF1 hnd hRV
  go_enter Tryz.func104, Tryz.ntmps104
  go_wp2_with fail
  refine DAY.out.mono ?_
  rintro e w1 ⟨rfl, hB1⟩
  have hr1 := (hB1.block w.heap.size (by simp; omega)).trans HR0.out
  have hd1 := (hB1.block (w.heap.size + 1) (by simp)).trans HD0.out
  have HB1 := Lib.hid (HB0.out.trans (hB1.mono (by simp; omega)))
  have c2 : w1.cell? ⟨w.heap.size + 1, 2, none⟩ = some (.int .i64 1) := cell_of_row w1 _ 2 _ _ _ hd1
  have fz := frozen_of_row w1 (w.heap.size + 1) 2 _ _ hd1
  have HR1 := Lib.hid hr1
  have HD1 := Lib.hid hd1
  clear hB1 hr1 hd1 DAY HB0 HR0 HD0
  go_wp2_with fail
  have g1 : IntKind.i64.wrap (wd - K) = wd - K := by simp only [IntKind.wrap_i64, wrap64]; omega
  have g2 : IntKind.i64.wrap (wd - K + 7) = wd - K + 7 := by simp only [IntKind.wrap_i64, wrap64]; omega
  have g3 : (wd - K + 7).tmod 7 = (wd - K + 7) % 7 := Int.tmod_eq_emod_of_nonneg (by omega)
  have g4 : IntKind.i64.wrap (1 + (wd - K + 7) % 7) = F1 := by rw [HF1.out]; simp only [IntKind.wrap_i64, wrap64]; omega
  have G1 := Lib.hid g1
  have G2 := Lib.hid g2
  have G3 := Lib.hid g3
  have G4 := Lib.hid g4
  clear g1 g2 g3 g4
  have hmx : Tryz.prog.follows .mixedOrders = true := by kernel_rfl
  refine wp_region_still_tail 10 hmx (by kernel_rfl) ?_
  change wpStill _ _ w1.drew _ _ _
  simp only [List.take_succ_cons, List.take_zero, List.drop_succ_cons, List.drop_zero]
  have c2d : w1.drew.cell? ⟨w.heap.size + 1, 2, none⟩ = some (.int .i64 1) := c2
  have fzd : w1.drew.frozen? ⟨w.heap.size + 1, 2, none⟩ = false := fz
  still_step
  still_step
  still_step
  still_step
  still_call ((WK.out w1.drew).mono fun _ _ h => ⟨h.1, h.2.symm⟩)
  repeat still_step
  refine wpStill_nil ?_
  change wpList _ _ _ _ _ w1.drew
  rw [G1.out, G2.out, G3.out, G4.out]
  have xr : w1.drew.heap[w.heap.size]? = some (.cells #[.int .i64 0, .int .i64 0, .int .i64 0] 111 (0, 0)) := HR1.out
  have xd : w1.drew.heap[w.heap.size + 1]? = some (.cells #[.int .i64 y, .int .i64 m, .int .i64 1] 111 (0, 0)) := HD1.out
  have xb : Below w.heap.size w w1.drew := HB1.out.drew
  generalize w1.drew = X at *
  have d0 : X.cell? ⟨w.heap.size + 1, 0, none⟩ = some (.int .i64 y) := cell_of_row X _ 0 _ _ _ xd
  have d1 : X.cell? ⟨w.heap.size + 1, 1, none⟩ = some (.int .i64 m) := cell_of_row X _ 1 _ _ _ xd
  have XR := Lib.hid xr
  have XD := Lib.hid xd
  have XB := Lib.hid xb
  clear xr xd xb c2 fz HR1 HD1 HB1 G1 G2 G3 G4
  have hA : ((X.setCell ⟨w.heap.size + 1, 2, none⟩ (.int .i64 F1)).setCell ⟨w.heap.size + 1, 2, none⟩ (.int .i64 (F1 + 21))).cell? ⟨w.heap.size + 1, 2, none⟩ = some (.int .i64 (F1 + 21)) :=
    World.cell?_setCell_same _ _ _ (World.cell?_setCell_same _ _ _ c2d)
  have hY : Below w.heap.size w ((X.setCell ⟨w.heap.size + 1, 2, none⟩ (.int .i64 F1)).setCell ⟨w.heap.size + 1, 2, none⟩ (.int .i64 (F1 + 21))) := (XB.out.setCell (p := ⟨w.heap.size + 1, 2, none⟩) (by simp) _).setCell (p := ⟨w.heap.size + 1, 2, none⟩) (by simp) _
  have hYr := (heap_setCell_other (X.setCell ⟨w.heap.size + 1, 2, none⟩ (.int .i64 F1)) ⟨w.heap.size + 1, 2, none⟩ w.heap.size (.int .i64 (F1 + 21)) (by simp)).trans ((heap_setCell_other X ⟨w.heap.size + 1, 2, none⟩ w.heap.size (.int .i64 F1) (by simp)).trans XR.out)
  have hYd := heap_setCell_same _ (w.heap.size + 1) 2 _ _ (.int .i64 (F1 + 21)) (heap_setCell_same X (w.heap.size + 1) 2 _ _ (.int .i64 F1) XD.out)
  have HY := Lib.hid hY
  have HYR := Lib.hid hYr
  have HYD := Lib.hid hYd
  clear hY hYr hYd
  go_wp2_with fail
  generalize hYY : ((X.setCell ⟨w.heap.size + 1, 2, none⟩ (.int .i64 F1)).setCell ⟨w.heap.size + 1, 2, none⟩ (.int .i64 (F1 + 21))) = Y at *
  refine (CHK.out _ (HT.out _ HY.out)).mono ?_
  rintro e w2 ⟨rfl, hB2⟩
  have hlt : w.heap.size + 1 < Y.heap.size := (Array.getElem?_eq_some_iff.1 HYD.out).1
  have yr := (hB2.block w.heap.size (by omega)).trans HYR.out
  have yd := (hB2.block (w.heap.size + 1) hlt).trans HYD.out
  have yb := HY.out.trans (hB2.mono HY.out.size)
  have r0 : w2.cell? ⟨w.heap.size, 0, none⟩ = some (.int .i64 0) := cell_of_row w2 _ 0 _ _ _ yr
  have r1 : w2.cell? ⟨w.heap.size, 1, none⟩ = some (.int .i64 0) := cell_of_row w2 _ 1 _ _ _ yr
  have r2 : w2.cell? ⟨w.heap.size, 2, none⟩ = some (.int .i64 0) := cell_of_row w2 _ 2 _ _ _ yr
  have f0 := frozen_of_row w2 w.heap.size 0 _ _ yr
  have f1 := frozen_of_row w2 w.heap.size 1 _ _ yr
  have f2 := frozen_of_row w2 w.heap.size 2 _ _ yr
  have e0 : w2.cell? ⟨w.heap.size + 1, 0, none⟩ = some (.int .i64 y) := cell_of_row w2 _ 0 _ _ _ yd
  have e1 : w2.cell? ⟨w.heap.size + 1, 1, none⟩ = some (.int .i64 m) := cell_of_row w2 _ 1 _ _ _ yd
  have e2 : w2.cell? ⟨w.heap.size + 1, 2, none⟩ = some (.int .i64 (F1 + 21)) := cell_of_row w2 _ 2 _ _ _ yd
  have YR := Lib.hid yr
  have YB := Lib.hid yb
  clear hB2 yr yd yb HYR HYD HY CHK hYY d0 d1 c2d fzd hA
  by_cases hle : F1 + 21 ≤ L
  · rw [if_pos hle]
    have HLE := Lib.hid hle
    clear hle
    go_wp2
    have hrow := heap_setCell_same _ w.heap.size 2 _ _ (.int .i64 (F1 + 21)) (heap_setCell_same _ w.heap.size 1 _ _ (.int .i64 m) (heap_setCell_same w2 w.heap.size 0 _ _ (.int .i64 y) YR.out))
    refine bodyPost_ret (results_nth rfl rfl hrow) rfl ?_
    exact ⟨by rw [HRV.out, if_pos (by have := HLE.out; omega)], ((YB.out.setCell (p := ⟨w.heap.size, 0, none⟩) (by simp) _).setCell (p := ⟨w.heap.size, 1, none⟩) (by simp) _).setCell (p := ⟨w.heap.size, 2, none⟩) (by simp) _⟩
  · rw [if_neg hle]
    have HLE := Lib.hid hle
    clear hle
    go_wp2
    have hrow := heap_setCell_same _ w.heap.size 2 _ _ (.int .i64 0) (heap_setCell_same _ w.heap.size 1 _ _ (.int .i64 0) (heap_setCell_same w2 w.heap.size 0 _ _ (.int .i64 0) YR.out))
    refine bodyPost_ret (results_nth rfl rfl hrow) rfl ?_
    exact ⟨by rw [HRV.out, if_neg (by have := HLE.out; omega)], ((YB.out.setCell (p := ⟨w.heap.size, 0, none⟩) (by simp) _).setCell (p := ⟨w.heap.size, 1, none⟩) (by simp) _).setCell (p := ⟨w.heap.size, 2, none⟩) (by simp) _⟩
set_option maxRecDepth 100000 in
set_option maxHeartbeats 4000000 in
theorem nth_5 (y m wd : Int) (hm : May y m 1) (hw1 : 1 ≤ wd) (hw7 : wd ≤ 7) (w : World) (hT : Tabs w) :
    Calls Tryz.prog 104 #[.int .i64 y, .int .i64 m, .int .i64 wd, .int .i64 5] w fun e w' => e = .returned (if nthD y m wd 5 ≤ dlen y m then .tuple #[dateV y m (nthD y m wd 5), .int .i64 0] else .tuple #[dateV 0 0 0, .int .i64 60]) ∧ Below w.heap.size w w' := by
  have hb0 := ((Below.refl _ w).alloc (Nat.le_refl _) (.cells #[.int .i64 0, .int .i64 0, .int .i64 0] 111)).alloc (by simp) (.cells #[.int .i64 y, .int .i64 m, .int .i64 1] 111)
  have hr := heap_old (heap_alloc_new w (.cells #[.int .i64 0, .int .i64 0, .int .i64 0] 111)) (.cells #[.int .i64 y, .int .i64 m, .int .i64 1] 111)
  have hr2 := heap_alloc_new (w.alloc (.cells #[.int .i64 0, .int .i64 0, .int .i64 0] 111)) (.cells #[.int .i64 y, .int .i64 m, .int .i64 1] 111)
  rw [World.size_alloc] at hr2
  have HT := Lib.hid (show ∀ X, Below w.heap.size w X → Tabs X from fun X hX => hT.next hX)
  have hday := day_yes y m 1 _ (hT.next hb0) hm
  have hdb := day_bounds hm
  have hdg := dlen_ge (y := y) (m := m) hm.2.2.1 hm.2.2.2.1
  have hdl := dlen_bounds (y := y) (m := m)
  have hwkb := wkday_bounds (dayOf y m 1)
  have hwk := fun X => weekday_any (dayOf y m 1) X
  rw [wkB_in hdb.1 hdb.2] at hwk
  have hdays := fun X hX => days_any y m X hX
  have hF1 : nthF y m wd = 1 + (wd - wkday (dayOf y m 1) + 7) % 7 := rfl
  have hfb := nthF_bounds y m wd
  have hnd : nthD y m wd 5 = nthF y m wd + 28 := by unfold nthD; rw [if_neg (by omega)]; omega
  rw [hnd]
  have hchk := fun d X hX => check_any y m d X hX
  have hmay : ∀ d, 1 ≤ d → mayE y m d = if d ≤ dlen y m then 0 else 60 := fun d hd => by
    unfold mayE
    obtain ⟨q1, q2, q3, q4, q5, q6⟩ := hm
    by_cases c : d ≤ dlen y m
    · rw [if_pos c, if_pos ⟨q1, q2, q3, q4, hd, c⟩]
    · rw [if_neg c, if_neg (fun h => c h.2.2.2.2.2)]
  have hym : 1970 ≤ y ∧ y ≤ 9999 ∧ 1 ≤ m ∧ m ≤ 12 := ⟨hm.1, hm.2.1, hm.2.2.1, hm.2.2.2.1⟩
  generalize dayOf y m 1 = N at *
  generalize wkday N = K at *
  generalize nthF y m wd = F1 at *
  have hdays2 : ∀ (X : World), Tabs X → Calls Tryz.prog 87 #[.int .i64 y, .int .i64 m] X fun e w' => e = .returned (.int .i64 (dlen y m)) ∧ X = w' := hdays
  generalize dlen y m = L at *
  have hdn : 1 ≤ F1 + 28 ∧ F1 + 28 ≤ 60 := by omega
  have hchk2 := hchk (F1 + 28)
  rw [hmay (F1 + 28) hdn.1] at hchk2
  have DAY := Lib.hid hday
  have WK := Lib.hid hwk
  have DAYS := Lib.hid hdays2
  have CHK := Lib.hid hchk2
  have HB0 := Lib.hid hb0
  have HR0 := Lib.hid hr
  have HD0 := Lib.hid hr2
  have HF1 := Lib.hid hF1
  obtain ⟨RV, hRV⟩ : ∃ v, v = (if F1 + 28 ≤ L then Value.tuple #[dateV y m (F1 + 28), .int .i64 0] else Value.tuple #[dateV 0 0 0, .int .i64 60]) := ⟨_, rfl⟩
  rw [← hRV]
  have HRV := Lib.hid hRV
  clear hb0 hr hr2 hday hwk hdays hdays2 hchk hchk2 hmay hT hm hF1 hnd hRV
  go_enter Tryz.func104, Tryz.ntmps104
  go_wp2_with fail
  refine DAY.out.mono ?_
  rintro e w1 ⟨rfl, hB1⟩
  have hr1 := (hB1.block w.heap.size (by simp; omega)).trans HR0.out
  have hd1 := (hB1.block (w.heap.size + 1) (by simp)).trans HD0.out
  have HB1 := Lib.hid (HB0.out.trans (hB1.mono (by simp; omega)))
  have c2 : w1.cell? ⟨w.heap.size + 1, 2, none⟩ = some (.int .i64 1) := cell_of_row w1 _ 2 _ _ _ hd1
  have fz := frozen_of_row w1 (w.heap.size + 1) 2 _ _ hd1
  have HR1 := Lib.hid hr1
  have HD1 := Lib.hid hd1
  clear hB1 hr1 hd1 DAY HB0 HR0 HD0
  go_wp2_with fail
  have g1 : IntKind.i64.wrap (wd - K) = wd - K := by simp only [IntKind.wrap_i64, wrap64]; omega
  have g2 : IntKind.i64.wrap (wd - K + 7) = wd - K + 7 := by simp only [IntKind.wrap_i64, wrap64]; omega
  have g3 : (wd - K + 7).tmod 7 = (wd - K + 7) % 7 := Int.tmod_eq_emod_of_nonneg (by omega)
  have g4 : IntKind.i64.wrap (1 + (wd - K + 7) % 7) = F1 := by rw [HF1.out]; simp only [IntKind.wrap_i64, wrap64]; omega
  have G1 := Lib.hid g1
  have G2 := Lib.hid g2
  have G3 := Lib.hid g3
  have G4 := Lib.hid g4
  clear g1 g2 g3 g4
  have hmx : Tryz.prog.follows .mixedOrders = true := by kernel_rfl
  refine wp_region_still_tail 10 hmx (by kernel_rfl) ?_
  change wpStill _ _ w1.drew _ _ _
  simp only [List.take_succ_cons, List.take_zero, List.drop_succ_cons, List.drop_zero]
  have c2d : w1.drew.cell? ⟨w.heap.size + 1, 2, none⟩ = some (.int .i64 1) := c2
  have fzd : w1.drew.frozen? ⟨w.heap.size + 1, 2, none⟩ = false := fz
  still_step
  still_step
  still_step
  still_step
  still_call ((WK.out w1.drew).mono fun _ _ h => ⟨h.1, h.2.symm⟩)
  repeat still_step
  refine wpStill_nil ?_
  change wpList _ _ _ _ _ w1.drew
  rw [G1.out, G2.out, G3.out, G4.out]
  have xr : w1.drew.heap[w.heap.size]? = some (.cells #[.int .i64 0, .int .i64 0, .int .i64 0] 111 (0, 0)) := HR1.out
  have xd : w1.drew.heap[w.heap.size + 1]? = some (.cells #[.int .i64 y, .int .i64 m, .int .i64 1] 111 (0, 0)) := HD1.out
  have xb : Below w.heap.size w w1.drew := HB1.out.drew
  generalize w1.drew = X at *
  have d0 : X.cell? ⟨w.heap.size + 1, 0, none⟩ = some (.int .i64 y) := cell_of_row X _ 0 _ _ _ xd
  have d1 : X.cell? ⟨w.heap.size + 1, 1, none⟩ = some (.int .i64 m) := cell_of_row X _ 1 _ _ _ xd
  have XR := Lib.hid xr
  have XD := Lib.hid xd
  have XB := Lib.hid xb
  clear xr xd xb c2 fz HR1 HD1 HB1 G1 G2 G3 G4
  have hA : ((X.setCell ⟨w.heap.size + 1, 2, none⟩ (.int .i64 F1)).setCell ⟨w.heap.size + 1, 2, none⟩ (.int .i64 (F1 + 28))).cell? ⟨w.heap.size + 1, 2, none⟩ = some (.int .i64 (F1 + 28)) :=
    World.cell?_setCell_same _ _ _ (World.cell?_setCell_same _ _ _ c2d)
  have hY : Below w.heap.size w ((X.setCell ⟨w.heap.size + 1, 2, none⟩ (.int .i64 F1)).setCell ⟨w.heap.size + 1, 2, none⟩ (.int .i64 (F1 + 28))) := (XB.out.setCell (p := ⟨w.heap.size + 1, 2, none⟩) (by simp) _).setCell (p := ⟨w.heap.size + 1, 2, none⟩) (by simp) _
  have hYr := (heap_setCell_other (X.setCell ⟨w.heap.size + 1, 2, none⟩ (.int .i64 F1)) ⟨w.heap.size + 1, 2, none⟩ w.heap.size (.int .i64 (F1 + 28)) (by simp)).trans ((heap_setCell_other X ⟨w.heap.size + 1, 2, none⟩ w.heap.size (.int .i64 F1) (by simp)).trans XR.out)
  have hYd := heap_setCell_same _ (w.heap.size + 1) 2 _ _ (.int .i64 (F1 + 28)) (heap_setCell_same X (w.heap.size + 1) 2 _ _ (.int .i64 F1) XD.out)
  have HY := Lib.hid hY
  have HYR := Lib.hid hYr
  have HYD := Lib.hid hYd
  clear hY hYr hYd
  go_wp2_with fail
  generalize hYY : ((X.setCell ⟨w.heap.size + 1, 2, none⟩ (.int .i64 F1)).setCell ⟨w.heap.size + 1, 2, none⟩ (.int .i64 (F1 + 28))) = Y at *
  refine (CHK.out _ (HT.out _ HY.out)).mono ?_
  rintro e w2 ⟨rfl, hB2⟩
  have hlt : w.heap.size + 1 < Y.heap.size := (Array.getElem?_eq_some_iff.1 HYD.out).1
  have yr := (hB2.block w.heap.size (by omega)).trans HYR.out
  have yd := (hB2.block (w.heap.size + 1) hlt).trans HYD.out
  have yb := HY.out.trans (hB2.mono HY.out.size)
  have r0 : w2.cell? ⟨w.heap.size, 0, none⟩ = some (.int .i64 0) := cell_of_row w2 _ 0 _ _ _ yr
  have r1 : w2.cell? ⟨w.heap.size, 1, none⟩ = some (.int .i64 0) := cell_of_row w2 _ 1 _ _ _ yr
  have r2 : w2.cell? ⟨w.heap.size, 2, none⟩ = some (.int .i64 0) := cell_of_row w2 _ 2 _ _ _ yr
  have f0 := frozen_of_row w2 w.heap.size 0 _ _ yr
  have f1 := frozen_of_row w2 w.heap.size 1 _ _ yr
  have f2 := frozen_of_row w2 w.heap.size 2 _ _ yr
  have e0 : w2.cell? ⟨w.heap.size + 1, 0, none⟩ = some (.int .i64 y) := cell_of_row w2 _ 0 _ _ _ yd
  have e1 : w2.cell? ⟨w.heap.size + 1, 1, none⟩ = some (.int .i64 m) := cell_of_row w2 _ 1 _ _ _ yd
  have e2 : w2.cell? ⟨w.heap.size + 1, 2, none⟩ = some (.int .i64 (F1 + 28)) := cell_of_row w2 _ 2 _ _ _ yd
  have YR := Lib.hid yr
  have YB := Lib.hid yb
  clear hB2 yr yd yb HYR HYD HY CHK hYY d0 d1 c2d fzd hA
  by_cases hle : F1 + 28 ≤ L
  · rw [if_pos hle]
    have HLE := Lib.hid hle
    clear hle
    go_wp2
    have hrow := heap_setCell_same _ w.heap.size 2 _ _ (.int .i64 (F1 + 28)) (heap_setCell_same _ w.heap.size 1 _ _ (.int .i64 m) (heap_setCell_same w2 w.heap.size 0 _ _ (.int .i64 y) YR.out))
    refine bodyPost_ret (results_nth rfl rfl hrow) rfl ?_
    exact ⟨by rw [HRV.out, if_pos (by have := HLE.out; omega)], ((YB.out.setCell (p := ⟨w.heap.size, 0, none⟩) (by simp) _).setCell (p := ⟨w.heap.size, 1, none⟩) (by simp) _).setCell (p := ⟨w.heap.size, 2, none⟩) (by simp) _⟩
  · rw [if_neg hle]
    have HLE := Lib.hid hle
    clear hle
    go_wp2
    have hrow := heap_setCell_same _ w.heap.size 2 _ _ (.int .i64 0) (heap_setCell_same _ w.heap.size 1 _ _ (.int .i64 0) (heap_setCell_same w2 w.heap.size 0 _ _ (.int .i64 0) YR.out))
    refine bodyPost_ret (results_nth rfl rfl hrow) rfl ?_
    exact ⟨by rw [HRV.out, if_neg (by have := HLE.out; omega)], ((YB.out.setCell (p := ⟨w.heap.size, 0, none⟩) (by simp) _).setCell (p := ⟨w.heap.size, 1, none⟩) (by simp) _).setCell (p := ⟨w.heap.size, 2, none⟩) (by simp) _⟩
set_option maxRecDepth 100000 in
set_option maxHeartbeats 4000000 in
theorem nth_last (y m wd : Int) (hm : May y m 1) (hw1 : 1 ≤ wd) (hw7 : wd ≤ 7) (w : World) (hT : Tabs w) :
    Calls Tryz.prog 104 #[.int .i64 y, .int .i64 m, .int .i64 wd, .int .i64 (-1)] w fun e w' => e = .returned (if nthD y m wd (-1) ≤ dlen y m then .tuple #[dateV y m (nthD y m wd (-1)), .int .i64 0] else .tuple #[dateV 0 0 0, .int .i64 60]) ∧ Below w.heap.size w w' := by
  have hb0 := ((Below.refl _ w).alloc (Nat.le_refl _) (.cells #[.int .i64 0, .int .i64 0, .int .i64 0] 111)).alloc (by simp) (.cells #[.int .i64 y, .int .i64 m, .int .i64 1] 111)
  have hr := heap_old (heap_alloc_new w (.cells #[.int .i64 0, .int .i64 0, .int .i64 0] 111)) (.cells #[.int .i64 y, .int .i64 m, .int .i64 1] 111)
  have hr2 := heap_alloc_new (w.alloc (.cells #[.int .i64 0, .int .i64 0, .int .i64 0] 111)) (.cells #[.int .i64 y, .int .i64 m, .int .i64 1] 111)
  rw [World.size_alloc] at hr2
  have HT := Lib.hid (show ∀ X, Below w.heap.size w X → Tabs X from fun X hX => hT.next hX)
  have hday := day_yes y m 1 _ (hT.next hb0) hm
  have hdb := day_bounds hm
  have hdg := dlen_ge (y := y) (m := m) hm.2.2.1 hm.2.2.2.1
  have hdl := dlen_bounds (y := y) (m := m)
  have hwkb := wkday_bounds (dayOf y m 1)
  have hwk := fun X => weekday_any (dayOf y m 1) X
  rw [wkB_in hdb.1 hdb.2] at hwk
  have hdays := fun X hX => days_any y m X hX
  have hF1 : nthF y m wd = 1 + (wd - wkday (dayOf y m 1) + 7) % 7 := rfl
  have hfb := nthF_bounds y m wd
  have hnd : nthD y m wd (-1) = nthF y m wd + (dlen y m - nthF y m wd) / 7 * 7 := by unfold nthD; rw [if_pos rfl]
  rw [hnd]
  have hchk := fun d X hX => check_any y m d X hX
  have hmay : ∀ d, 1 ≤ d → mayE y m d = if d ≤ dlen y m then 0 else 60 := fun d hd => by
    unfold mayE
    obtain ⟨q1, q2, q3, q4, q5, q6⟩ := hm
    by_cases c : d ≤ dlen y m
    · rw [if_pos c, if_pos ⟨q1, q2, q3, q4, hd, c⟩]
    · rw [if_neg c, if_neg (fun h => c h.2.2.2.2.2)]
  have hym : 1970 ≤ y ∧ y ≤ 9999 ∧ 1 ≤ m ∧ m ≤ 12 := ⟨hm.1, hm.2.1, hm.2.2.1, hm.2.2.2.1⟩
  generalize dayOf y m 1 = N at *
  generalize wkday N = K at *
  generalize nthF y m wd = F1 at *
  have hdays2 : ∀ (X : World), Tabs X → Calls Tryz.prog 87 #[.int .i64 y, .int .i64 m] X fun e w' => e = .returned (.int .i64 (dlen y m)) ∧ X = w' := hdays
  generalize dlen y m = L at *
  have hdn : 1 ≤ F1 + (L - F1) / 7 * 7 ∧ F1 + (L - F1) / 7 * 7 ≤ 60 := by omega
  have hchk2 := hchk (F1 + (L - F1) / 7 * 7)
  rw [hmay (F1 + (L - F1) / 7 * 7) hdn.1] at hchk2
  have DAY := Lib.hid hday
  have WK := Lib.hid hwk
  have DAYS := Lib.hid hdays2
  have CHK := Lib.hid hchk2
  have HB0 := Lib.hid hb0
  have HR0 := Lib.hid hr
  have HD0 := Lib.hid hr2
  have HF1 := Lib.hid hF1
  obtain ⟨RV, hRV⟩ : ∃ v, v = (if F1 + (L - F1) / 7 * 7 ≤ L then Value.tuple #[dateV y m (F1 + (L - F1) / 7 * 7), .int .i64 0] else Value.tuple #[dateV 0 0 0, .int .i64 60]) := ⟨_, rfl⟩
  rw [← hRV]
  have HRV := Lib.hid hRV
  clear hb0 hr hr2 hday hwk hdays hdays2 hchk hchk2 hmay hT hm hF1 hnd hRV
  go_enter Tryz.func104, Tryz.ntmps104
  go_wp2_with fail
  refine DAY.out.mono ?_
  rintro e w1 ⟨rfl, hB1⟩
  have hr1 := (hB1.block w.heap.size (by simp; omega)).trans HR0.out
  have hd1 := (hB1.block (w.heap.size + 1) (by simp)).trans HD0.out
  have HB1 := Lib.hid (HB0.out.trans (hB1.mono (by simp; omega)))
  have c2 : w1.cell? ⟨w.heap.size + 1, 2, none⟩ = some (.int .i64 1) := cell_of_row w1 _ 2 _ _ _ hd1
  have fz := frozen_of_row w1 (w.heap.size + 1) 2 _ _ hd1
  have HR1 := Lib.hid hr1
  have HD1 := Lib.hid hd1
  clear hB1 hr1 hd1 DAY HB0 HR0 HD0
  go_wp2_with fail
  have g1 : IntKind.i64.wrap (wd - K) = wd - K := by simp only [IntKind.wrap_i64, wrap64]; omega
  have g2 : IntKind.i64.wrap (wd - K + 7) = wd - K + 7 := by simp only [IntKind.wrap_i64, wrap64]; omega
  have g3 : (wd - K + 7).tmod 7 = (wd - K + 7) % 7 := Int.tmod_eq_emod_of_nonneg (by omega)
  have g4 : IntKind.i64.wrap (1 + (wd - K + 7) % 7) = F1 := by rw [HF1.out]; simp only [IntKind.wrap_i64, wrap64]; omega
  have G1 := Lib.hid g1
  have G2 := Lib.hid g2
  have G3 := Lib.hid g3
  have G4 := Lib.hid g4
  clear g1 g2 g3 g4
  have hmx : Tryz.prog.follows .mixedOrders = true := by kernel_rfl
  refine wp_region_still_tail 10 hmx (by kernel_rfl) ?_
  change wpStill _ _ w1.drew _ _ _
  simp only [List.take_succ_cons, List.take_zero, List.drop_succ_cons, List.drop_zero]
  have c2d : w1.drew.cell? ⟨w.heap.size + 1, 2, none⟩ = some (.int .i64 1) := c2
  have fzd : w1.drew.frozen? ⟨w.heap.size + 1, 2, none⟩ = false := fz
  still_step
  still_step
  still_step
  still_step
  still_call ((WK.out w1.drew).mono fun _ _ h => ⟨h.1, h.2.symm⟩)
  repeat still_step
  refine wpStill_nil ?_
  change wpList _ _ _ _ _ w1.drew
  rw [G1.out, G2.out, G3.out, G4.out]
  have xr : w1.drew.heap[w.heap.size]? = some (.cells #[.int .i64 0, .int .i64 0, .int .i64 0] 111 (0, 0)) := HR1.out
  have xd : w1.drew.heap[w.heap.size + 1]? = some (.cells #[.int .i64 y, .int .i64 m, .int .i64 1] 111 (0, 0)) := HD1.out
  have xb : Below w.heap.size w w1.drew := HB1.out.drew
  generalize w1.drew = X at *
  have d0 : X.cell? ⟨w.heap.size + 1, 0, none⟩ = some (.int .i64 y) := cell_of_row X _ 0 _ _ _ xd
  have d1 : X.cell? ⟨w.heap.size + 1, 1, none⟩ = some (.int .i64 m) := cell_of_row X _ 1 _ _ _ xd
  have XR := Lib.hid xr
  have XD := Lib.hid xd
  have XB := Lib.hid xb
  clear xr xd xb c2 fz HR1 HD1 HB1 G1 G2 G3 G4
  have mD : X.setCell ⟨w.heap.size + 1, 2, none⟩ (.int .i64 F1) = X.setCell ⟨w.heap.size + 1, 2, none⟩ (.int .i64 F1) := rfl
  go_wp2_with fail
  have z0 : (X.setCell ⟨w.heap.size + 1, 2, none⟩ (.int .i64 F1)).cell? ⟨w.heap.size + 1, 2, none⟩ = some (.int .i64 F1) := World.cell?_setCell_same _ _ _ c2d
  have z1 : (X.setCell ⟨w.heap.size + 1, 2, none⟩ (.int .i64 F1)).frozen? ⟨w.heap.size + 1, 2, none⟩ = false := (World.frozen?_setCell _ _ _ _).trans fzd
  have zB : Below w.heap.size w (X.setCell ⟨w.heap.size + 1, 2, none⟩ (.int .i64 F1)) := XB.out.setCell (p := ⟨w.heap.size + 1, 2, none⟩) (by simp) _
  have zr := (heap_setCell_other X ⟨w.heap.size + 1, 2, none⟩ w.heap.size (.int .i64 F1) (by simp)).trans XR.out
  have zd := heap_setCell_same X (w.heap.size + 1) 2 _ _ (.int .i64 F1) XD.out
  generalize (X.setCell ⟨w.heap.size + 1, 2, none⟩ (.int .i64 F1)) = Z at *
  have g5 : IntKind.i64.wrap (L - F1) = L - F1 := by simp only [IntKind.wrap_i64, wrap64]; omega
  have g6 : IntKind.i64.wrap ((L - F1) / 7 * 7) = (L - F1) / 7 * 7 := by simp only [IntKind.wrap_i64, wrap64]; omega
  have g7 : IntKind.i64.wrap (F1 + (L - F1) / 7 * 7) = F1 + (L - F1) / 7 * 7 := by simp only [IntKind.wrap_i64, wrap64]; omega
  have g8 : IntKind.i64.wrap ((L - F1).tdiv 7) = (L - F1) / 7 := by rw [Int.tdiv_eq_ediv_of_nonneg (by omega)]; simp only [IntKind.wrap_i64, wrap64]; omega
  have g9 : (L - F1).tdiv 7 = (L - F1) / 7 := Int.tdiv_eq_ediv_of_nonneg (by omega)
  have G5 := Lib.hid g5
  have G6 := Lib.hid g6
  have G7 := Lib.hid g7
  have G8 := Lib.hid g8
  have G9 := Lib.hid g9
  have ZB := Lib.hid zB
  have ZR := Lib.hid zr
  have ZD := Lib.hid zd
  clear g5 g6 g7 g8 g9 zB zr zd XR XD XB d0 d1 c2d fzd mD
  refine wp_region_still_tail 12 hmx (by kernel_rfl) ?_
  change wpStill _ _ Z.drew _ _ _
  simp only [List.take_succ_cons, List.take_zero, List.drop_succ_cons, List.drop_zero]
  have z0d : Z.drew.cell? ⟨w.heap.size + 1, 2, none⟩ = some (.int .i64 F1) := z0
  have z1d : Z.drew.frozen? ⟨w.heap.size + 1, 2, none⟩ = false := z1
  still_step
  still_step
  still_step
  still_step
  still_call ((DAYS.out Z.drew (HT.out _ ZB.out.drew)).mono fun _ _ h => ⟨h.1, h.2.symm⟩)
  repeat still_step
  refine wpStill_nil ?_
  change wpList _ _ _ _ _ Z.drew
  simp only [G5.out, G9.out, G8.out, G6.out, G7.out]
  have hA : (Z.drew.setCell ⟨w.heap.size + 1, 2, none⟩ (.int .i64 (F1 + (L - F1) / 7 * 7))).cell? ⟨w.heap.size + 1, 2, none⟩ = some (.int .i64 (F1 + (L - F1) / 7 * 7)) := World.cell?_setCell_same _ _ _ z0d
  have d0 : Z.drew.cell? ⟨w.heap.size + 1, 0, none⟩ = some (.int .i64 y) := cell_of_row Z.drew _ 0 _ _ _ ZD.out
  have d1 : Z.drew.cell? ⟨w.heap.size + 1, 1, none⟩ = some (.int .i64 m) := cell_of_row Z.drew _ 1 _ _ _ ZD.out
  have hY : Below w.heap.size w (Z.drew.setCell ⟨w.heap.size + 1, 2, none⟩ (.int .i64 (F1 + (L - F1) / 7 * 7))) := ZB.out.drew.setCell (p := ⟨w.heap.size + 1, 2, none⟩) (by simp) _
  have hYr := (heap_setCell_other Z.drew ⟨w.heap.size + 1, 2, none⟩ w.heap.size (.int .i64 (F1 + (L - F1) / 7 * 7)) (by simp)).trans ZR.out
  have hYd := heap_setCell_same Z.drew (w.heap.size + 1) 2 _ _ (.int .i64 (F1 + (L - F1) / 7 * 7)) ZD.out
  have HY := Lib.hid hY
  have HYR := Lib.hid hYr
  have HYD := Lib.hid hYd
  clear hY hYr hYd z0 z1 G5 G6 G7 G8 G9
  generalize Z.drew = U at *
  go_wp2_with fail
  generalize hYY : (U.setCell ⟨w.heap.size + 1, 2, none⟩ (.int .i64 (F1 + (L - F1) / 7 * 7))) = Y at *
  refine (CHK.out _ (HT.out _ HY.out)).mono ?_
  have c2d : True := trivial
  have fzd : True := trivial
  rintro e w2 ⟨rfl, hB2⟩
  have hlt : w.heap.size + 1 < Y.heap.size := (Array.getElem?_eq_some_iff.1 HYD.out).1
  have yr := (hB2.block w.heap.size (by omega)).trans HYR.out
  have yd := (hB2.block (w.heap.size + 1) hlt).trans HYD.out
  have yb := HY.out.trans (hB2.mono HY.out.size)
  have r0 : w2.cell? ⟨w.heap.size, 0, none⟩ = some (.int .i64 0) := cell_of_row w2 _ 0 _ _ _ yr
  have r1 : w2.cell? ⟨w.heap.size, 1, none⟩ = some (.int .i64 0) := cell_of_row w2 _ 1 _ _ _ yr
  have r2 : w2.cell? ⟨w.heap.size, 2, none⟩ = some (.int .i64 0) := cell_of_row w2 _ 2 _ _ _ yr
  have f0 := frozen_of_row w2 w.heap.size 0 _ _ yr
  have f1 := frozen_of_row w2 w.heap.size 1 _ _ yr
  have f2 := frozen_of_row w2 w.heap.size 2 _ _ yr
  have e0 : w2.cell? ⟨w.heap.size + 1, 0, none⟩ = some (.int .i64 y) := cell_of_row w2 _ 0 _ _ _ yd
  have e1 : w2.cell? ⟨w.heap.size + 1, 1, none⟩ = some (.int .i64 m) := cell_of_row w2 _ 1 _ _ _ yd
  have e2 : w2.cell? ⟨w.heap.size + 1, 2, none⟩ = some (.int .i64 (F1 + (L - F1) / 7 * 7)) := cell_of_row w2 _ 2 _ _ _ yd
  have YR := Lib.hid yr
  have YB := Lib.hid yb
  clear hB2 yr yd yb HYR HYD HY CHK hYY d0 d1 c2d fzd
  by_cases hle : F1 + (L - F1) / 7 * 7 ≤ L
  · rw [if_pos hle]
    have HLE := Lib.hid hle
    clear hle
    go_wp2
    have hrow := heap_setCell_same _ w.heap.size 2 _ _ (.int .i64 (F1 + (L - F1) / 7 * 7)) (heap_setCell_same _ w.heap.size 1 _ _ (.int .i64 m) (heap_setCell_same w2 w.heap.size 0 _ _ (.int .i64 y) YR.out))
    refine bodyPost_ret (results_nth rfl rfl hrow) rfl ?_
    exact ⟨by rw [HRV.out, if_pos (by have := HLE.out; omega)], ((YB.out.setCell (p := ⟨w.heap.size, 0, none⟩) (by simp) _).setCell (p := ⟨w.heap.size, 1, none⟩) (by simp) _).setCell (p := ⟨w.heap.size, 2, none⟩) (by simp) _⟩
  · rw [if_neg hle]
    have HLE := Lib.hid hle
    clear hle
    go_wp2
    have hrow := heap_setCell_same _ w.heap.size 2 _ _ (.int .i64 0) (heap_setCell_same _ w.heap.size 1 _ _ (.int .i64 0) (heap_setCell_same w2 w.heap.size 0 _ _ (.int .i64 0) YR.out))
    refine bodyPost_ret (results_nth rfl rfl hrow) rfl ?_
    exact ⟨by rw [HRV.out, if_neg (by have := HLE.out; omega)], ((YB.out.setCell (p := ⟨w.heap.size, 0, none⟩) (by simp) _).setCell (p := ⟨w.heap.size, 1, none⟩) (by simp) _).setCell (p := ⟨w.heap.size, 2, none⟩) (by simp) _⟩
theorem nth_yes (y m wd n : Int) (h : NthIs y m wd n) (w : World) (hT : Tabs w) :
    Calls Tryz.prog 104 #[.int .i64 y, .int .i64 m, .int .i64 wd, .int .i64 n] w fun e w' => e = .returned (.tuple #[dateV y m (nthD y m wd n), .int .i64 0]) ∧ Below w.heap.size w w' := by
  obtain ⟨hm, ⟨h1, h2⟩, hn⟩ := h
  rcases hn with rfl | ⟨h3, h4, hle⟩
  · have hfb := nthF_bounds y m wd
    have hdg := dlen_ge (y := y) (m := m) hm.2.2.1 hm.2.2.2.1
    have hle : nthD y m wd (-1) ≤ dlen y m := by unfold nthD; rw [if_pos rfl]; omega
    have := nth_last y m wd hm h1 h2 w hT
    rw [if_pos hle] at this
    exact this
  · have hc : n = 1 ∨ n = 2 ∨ n = 3 ∨ n = 4 ∨ n = 5 := by omega
    rcases hc with rfl | rfl | rfl | rfl | rfl
    · have := nth_1 y m wd hm h1 h2 w hT
      rw [if_pos hle] at this; exact this
    · have := nth_2 y m wd hm h1 h2 w hT
      rw [if_pos hle] at this; exact this
    · have := nth_3 y m wd hm h1 h2 w hT
      rw [if_pos hle] at this; exact this
    · have := nth_4 y m wd hm h1 h2 w hT
      rw [if_pos hle] at this; exact this
    · have := nth_5 y m wd hm h1 h2 w hT
      rw [if_pos hle] at this; exact this
theorem nth_no (y m wd n : Int) (h : ¬ NthIs y m wd n) (w : World) (hT : Tabs w) :
    Calls Tryz.prog 104 #[.int .i64 y, .int .i64 m, .int .i64 wd, .int .i64 n] w fun e w' => e = .returned (.tuple #[dateV 0 0 0, .int .i64 60]) ∧ Below w.heap.size w w' := by
  by_cases c : May y m 1 ∧ 1 ≤ wd ∧ wd ≤ 7
  · obtain ⟨hm, h1, h2⟩ := c
    by_cases hn : n = -1 ∨ (1 ≤ n ∧ n ≤ 5)
    · rcases hn with rfl | ⟨h3, h4⟩
      · exact absurd ⟨hm, ⟨h1, h2⟩, .inl rfl⟩ h
      · have hle : ¬ nthD y m wd n ≤ dlen y m := fun hc => h ⟨hm, ⟨h1, h2⟩, .inr ⟨h3, h4, hc⟩⟩
        have hc : n = 1 ∨ n = 2 ∨ n = 3 ∨ n = 4 ∨ n = 5 := by omega
        rcases hc with rfl | rfl | rfl | rfl | rfl
        · have := nth_1 y m wd hm h1 h2 w hT
          rw [if_neg hle] at this; exact this
        · have := nth_2 y m wd hm h1 h2 w hT
          rw [if_neg hle] at this; exact this
        · have := nth_3 y m wd hm h1 h2 w hT
          rw [if_neg hle] at this; exact this
        · have := nth_4 y m wd hm h1 h2 w hT
          rw [if_neg hle] at this; exact this
        · have := nth_5 y m wd hm h1 h2 w hT
          rw [if_neg hle] at this; exact this
    · exact nth_def y m wd n hn hm h1 h2 w hT
  · exact nth_bad y m wd n c w hT
end Go.Proofs.YtbffmobjiiicoaaGreatDoor
end
section
/- Contract of the document's function Nth. -/
set_option linter.unusedVariables false
set_option linter.unusedSimpArgs false
namespace Go.Proofs.YtbffmobjiiicoaaGreatDoor
open Go.RowKit Go.Shelf
theorem nth_wk (y m wd : Int) (h1 : 1 ≤ wd) (h2 : wd ≤ 7) (k : Int) : wkday (dayOf y m (nthF y m wd + 7 * (k - 1))) = wd := by
  unfold nthF wkday dayOf
  omega
theorem nthD_eq (y m wd k : Int) (h : 1 ≤ k) : nthD y m wd k = nthF y m wd + 7 * (k - 1) := by
  unfold nthD; rw [if_neg (by omega)]; omega
theorem dlen_31 {y m : Int} : dlen y m ≤ 31 := dlen_bounds.2
theorem rnth_bad (y m wd n : Int) (h : ¬ (May y m 1 ∧ (1 ≤ wd ∧ wd ≤ 7) ∧ (n = -1 ∨ (1 ≤ n ∧ n ≤ 5)))) (w : World) :
    Calls Tryz.prog 99 #[.int .i64 y, .int .i64 m, .int .i64 wd, .int .i64 n] w fun e w' => e = .returned (.tuple #[.int .i64 0, .int .i64 60]) ∧ w = w' := by
  have HC := Lib.hid (fun X => rmay_any y m 1 X)
  by_cases cm : May y m 1
  · have gm := Lib.hid (show decide (May y m 1) = true from decide_eq_true cm)
    by_cases c1 : wd < 1
    · clear h cm
      go_enter Tryz.func99, Tryz.ntmps99
      go_wp2_with fail
      refine (HC.out _).mono ?_
      rintro e w' ⟨rfl, rfl⟩
      rw [gm.out]
      go_wp2
      go_ret2
      exact ⟨rfl, rfl⟩
    · by_cases c2 : 7 < wd
      · clear h cm
        go_enter Tryz.func99, Tryz.ntmps99
        go_wp2_with fail
        refine (HC.out _).mono ?_
        rintro e w' ⟨rfl, rfl⟩
        rw [gm.out]
        go_wp2
        go_ret2
        exact ⟨rfl, rfl⟩
      · by_cases c3 : n = -1
        · exact absurd ⟨cm, by omega, .inl c3⟩ h
        · have g3 : (n != -1) = true := by simp [c3]
          by_cases c4 : n < 1
          · clear h cm
            go_enter Tryz.func99, Tryz.ntmps99
            go_wp2_with fail
            refine (HC.out _).mono ?_
            rintro e w' ⟨rfl, rfl⟩
            rw [gm.out]
            go_wp2
            go_ret2
            exact ⟨rfl, rfl⟩
          · by_cases c5 : 5 < n
            · clear h cm
              go_enter Tryz.func99, Tryz.ntmps99
              go_wp2_with fail
              refine (HC.out _).mono ?_
              rintro e w' ⟨rfl, rfl⟩
              rw [gm.out]
              go_wp2
              go_ret2
              exact ⟨rfl, rfl⟩
            · exact absurd ⟨cm, by omega, .inr (by omega)⟩ h
  · have gm := Lib.hid (show decide (May y m 1) = false from decide_eq_false cm)
    clear h cm
    go_enter Tryz.func99, Tryz.ntmps99
    go_wp2_with fail
    refine (HC.out _).mono ?_
    rintro e w' ⟨rfl, rfl⟩
    rw [gm.out]
    go_wp2
    go_ret2
    exact ⟨rfl, rfl⟩
def metB (F d : Int) : Int := (d + 6 - F) / 7
def lastB (F d : Int) : Int := if metB F d = 0 then 0 else F + 7 * (metB F d - 1)
theorem wk_iff (y m wd d : Int) (h1 : 1 ≤ wd) (h2 : wd ≤ 7) : wkday (dayOf y m d) = wd ↔ (d - nthF y m wd) % 7 = 0 := by
  unfold nthF wkday dayOf
  omega
set_option maxRecDepth 100000 in
set_option maxHeartbeats 2000000 in
theorem rnth_good (y m wd n : Int) (hm : May y m 1) (hw1 : 1 ≤ wd) (hw7 : wd ≤ 7) (hn : n = -1 ∨ (1 ≤ n ∧ n ≤ 5)) (w : World) :
    Calls Tryz.prog 99 #[.int .i64 y, .int .i64 m, .int .i64 wd, .int .i64 n] w fun e w' => e = .returned (if NthIs y m wd n then .tuple #[.int .i64 (nthD y m wd n), .int .i64 0] else .tuple #[.int .i64 0, .int .i64 60]) ∧ w = w' := by
  have HC := Lib.hid (fun X => rmay_any y m 1 X)
  have HDS := Lib.hid (fun X => rdays_any y m X)
  have HWK := Lib.hid (fun k X => rweekday_any k X)
  have gm := Lib.hid (show decide (May y m 1) = true from decide_eq_true hm)
  have hdl := dlen_ge (y := y) (m := m) hm.2.2.1 hm.2.2.2.1
  have hdl2 := dlen_31 (y := y) (m := m)
  have HM := Lib.hid hm
  have HN := Lib.hid hn
  have hF := nthF_bounds y m wd
  have HRV : ∃ RV, RV = (if NthIs y m wd n then Value.tuple #[.int .i64 (nthD y m wd n), .int .i64 0] else Value.tuple #[.int .i64 0, .int .i64 60]) := ⟨_, rfl⟩
  obtain ⟨RV, hrv⟩ := HRV
  rw [← hrv]
  have HR := Lib.hid hrv
  have HW := Lib.hid (And.intro hw1 hw7)
  obtain ⟨L, hL⟩ : ∃ L, L = dlen y m := ⟨_, rfl⟩
  rw [← hL] at hdl hdl2
  rw [← hL] at HDS
  obtain ⟨F, hFF⟩ : ∃ F, F = nthF y m wd := ⟨_, rfl⟩
  rw [← hFF] at hF
  have HL := Lib.hid hL
  have HF := Lib.hid hFF
  have hnn : (n != -1) = true ∨ (n != -1) = false := by cases (n != -1) <;> simp
  have hnb : -1 ≤ n ∧ n ≤ 5 := by omega
  clear hm hrv hL hFF hn
  rcases hnn with g3 | g3
  · have hn1 : 1 ≤ n := by
      have := HN.out
      have : n ≠ -1 := by simpa using g3
      omega
    have hn5 := hnb.2
    have g5 : (n == -1) = false := by simp; omega
    go_enter Tryz.func99, Tryz.ntmps99
    go_wp2_with fail
    refine (HC.out _).mono ?_
    rintro e w' ⟨rfl, rfl⟩
    rw [gm.out]
    go_wp2
    clear g3
    go_loopw [10, 11, 12] (fun me la i wr => ∃ d : Int, 1 ≤ d ∧ d ≤ L + 1 ∧ i = .int .i64 d ∧ me = .int .i64 (metB F d) ∧ la = .int .i64 (lastB F d) ∧ (n = -1 ∨ metB F d < n) ∧ w = wr) (fun _ _ i _ => (40 - intOf i).toNat)
    case atStart =>
      have e0 : metB F 1 = 0 := by unfold metB; omega
      exact ⟨1, by omega, by omega, rfl, by rw [e0], by unfold lastB; rw [if_pos e0], by rw [e0]; have := HN.out; omega, rfl⟩
    case round =>
      obtain ⟨d, hd1, hd2, rfl, rfl, rfl, hlt, rfl⟩ := hrel
      have hmb : 0 ≤ metB F d ∧ metB F d ≤ 6 := by unfold metB; omega
      obtain ⟨MB, hMB⟩ : ∃ x, x = metB F d := ⟨_, rfl⟩
      obtain ⟨LB, hLB⟩ : ∃ x, x = lastB F d := ⟨_, rfl⟩
      rw [← hMB] at hlt hmb ⊢
      rw [← hLB]
      by_cases hle : d ≤ L
      · have hmay : May y m d := by
          obtain ⟨k1, k2, k3, k4, k5, k6⟩ := HM.out
          exact ⟨k1, k2, k3, k4, hd1, by rw [← HL.out]; exact hle⟩
        have hb := day_bounds hmay
        have HDY := Lib.hid (fun X => rday_any y m d X)
        rw [show dayE y m d = dayOf y m d by unfold dayE; rw [if_pos hmay], mayE_yes hmay] at HDY
        obtain ⟨K, hK⟩ : ∃ K, K = dayOf y m d := ⟨_, rfl⟩
        rw [← hK] at HDY hb
        have HWD := Lib.hid (fun X => HWK.out K X)
        rw [show wkB K = wkday K by unfold wkB; rw [if_pos hb]] at HWD
        have hiff : wkday K = wd ↔ (d - F) % 7 = 0 := by rw [hK, HF.out]; exact wk_iff y m wd d HW.out.1 HW.out.2
        obtain ⟨V, hV⟩ : ∃ V, V = wkday K := ⟨_, rfl⟩
        rw [← hV] at HWD hiff
        have HMB := Lib.hid hMB
        have HLB := Lib.hid hLB
        have HLT := Lib.hid hlt
        clear hmay hb hK hV hMB hLB hlt
        by_cases hwd : V = wd
        · have h7 := hiff.1 hwd
          have gw : (V != wd) = false := by simp [hwd]
          have e1 : metB F (d + 1) = MB + 1 := by rw [HMB.out]; unfold metB; omega
          have e2 : lastB F (d + 1) = d := by
            unfold lastB
            rw [e1, if_neg (by omega), HMB.out]
            unfold metB; omega
          have H7 := Lib.hid h7
          have E1 := Lib.hid e1
          have E2 := Lib.hid e2
          clear hiff hwd h7 e1 e2
          by_cases hret : MB + 1 = n
          · have gr : (MB + 1 == n) = true := by simp [hret]
            have HRET := Lib.hid hret
            clear hret
            go_wp2_with (first
              | (go_at_call 66; refine (HDS.out _).mono ?_; rintro e w' ⟨rfl, rfl⟩)
              | (go_at_call 100; refine (HDY.out _).mono ?_; rintro e w' ⟨rfl, rfl⟩)
              | (go_at_call 67; refine (HWD.out _).mono ?_; rintro e w' ⟨rfl, rfl⟩))
            go_ret2
            have hnn : 1 ≤ n := by have := HRET.out; omega
            have hD : nthD y m wd n = d := by
              unfold nthD
              rw [if_neg (by omega), ← HF.out, ← HRET.out, HMB.out]
              have := H7.out
              unfold metB; omega
            have hN5 : n ≤ 5 := by have := HN.out; omega
            have hyes : NthIs y m wd n := ⟨HM.out, HW.out, .inr ⟨hnn, hN5, by rw [hD, ← HL.out]; exact hle⟩⟩
            rw [HR.out, if_pos hyes, hD]
            exact ⟨rfl, rfl⟩
          · have gr : (MB + 1 == n) = false := by simp [hret]
            have HRET := Lib.hid hret
            clear hret
            go_wp2_with (first
              | (go_at_call 66; refine (HDS.out _).mono ?_; rintro e w' ⟨rfl, rfl⟩)
              | (go_at_call 100; refine (HDY.out _).mono ?_; rintro e w' ⟨rfl, rfl⟩)
              | (go_at_call 67; refine (HWD.out _).mono ?_; rintro e w' ⟨rfl, rfl⟩))
            go_roundw
            case rel => exact ⟨d + 1, by omega, by omega, rfl, by rw [E1.out], by rw [E2.out], by rw [E1.out]; have := HLT.out; have := HRET.out; omega, trivial⟩
            case measure => simp [intOf]; omega
        · have gw : (V != wd) = true := by simp [hwd]
          have h7 : (d - F) % 7 ≠ 0 := fun h => hwd (hiff.2 h)
          have e1 : metB F (d + 1) = MB := by rw [HMB.out]; unfold metB; omega
          have e2 : lastB F (d + 1) = LB := by
            rw [HLB.out]
            unfold lastB
            rw [e1, HMB.out]
          have E1 := Lib.hid e1
          have E2 := Lib.hid e2
          clear hiff hwd h7 e1 e2
          go_wp2_with (first
            | (go_at_call 66; refine (HDS.out _).mono ?_; rintro e w' ⟨rfl, rfl⟩)
            | (go_at_call 100; refine (HDY.out _).mono ?_; rintro e w' ⟨rfl, rfl⟩)
            | (go_at_call 67; refine (HWD.out _).mono ?_; rintro e w' ⟨rfl, rfl⟩))
          go_roundw
          case rel => exact ⟨d + 1, by omega, by omega, rfl, by rw [E1.out], by rw [E2.out], by rw [E1.out]; exact HLT.out, trivial⟩
          case measure => simp [intOf]; omega
      · have hd : d = L + 1 := by omega
        have hgt : L < d := by omega
        have HMB := Lib.hid hMB
        have HLB := Lib.hid hLB
        have HLT := Lib.hid hlt
        clear hMB hLB hlt hle
        have HDD := Lib.hid hd
        clear hd
        go_wp2_with (first
          | (go_at_call 66; refine (HDS.out _).mono ?_; rintro e w' ⟨rfl, rfl⟩))
        go_ret2
        have hlt := HLT.out
        have hD : ¬ nthD y m wd n ≤ L := by
          unfold nthD
          rw [if_neg (by omega), ← HF.out]
          have h1 := HMB.out
          have h2 := HDD.out
          unfold metB at h1
          omega
        have hno : ¬ NthIs y m wd n := fun h => by
          rcases h.2.2 with h | ⟨_, _, h⟩
          · omega
          · exact hD (by rw [HL.out]; exact h)
        rw [HR.out, if_neg hno]
        exact ⟨rfl, rfl⟩
  · have hn1 : n = -1 := by simpa using g3
    have g5 : (n == -1) = true := by simp [hn1]
    clear hnb
    go_enter Tryz.func99, Tryz.ntmps99
    go_wp2_with fail
    refine (HC.out _).mono ?_
    rintro e w' ⟨rfl, rfl⟩
    rw [gm.out]
    go_wp2
    clear g3
    go_loopw [10, 11, 12] (fun me la i wr => ∃ d : Int, 1 ≤ d ∧ d ≤ L + 1 ∧ i = .int .i64 d ∧ me = .int .i64 (metB F d) ∧ la = .int .i64 (lastB F d) ∧ (n = -1 ∨ metB F d < n) ∧ w = wr) (fun _ _ i _ => (40 - intOf i).toNat)
    case atStart =>
      have e0 : metB F 1 = 0 := by unfold metB; omega
      exact ⟨1, by omega, by omega, rfl, by rw [e0], by unfold lastB; rw [if_pos e0], by rw [e0]; have := HN.out; omega, rfl⟩
    case round =>
      obtain ⟨d, hd1, hd2, rfl, rfl, rfl, hlt, rfl⟩ := hrel
      have hmb : 0 ≤ metB F d ∧ metB F d ≤ 6 := by unfold metB; omega
      obtain ⟨MB, hMB⟩ : ∃ x, x = metB F d := ⟨_, rfl⟩
      obtain ⟨LB, hLB⟩ : ∃ x, x = lastB F d := ⟨_, rfl⟩
      rw [← hMB] at hlt hmb ⊢
      rw [← hLB]
      by_cases hle : d ≤ L
      · have hmay : May y m d := by
          obtain ⟨k1, k2, k3, k4, k5, k6⟩ := HM.out
          exact ⟨k1, k2, k3, k4, hd1, by rw [← HL.out]; exact hle⟩
        have hb := day_bounds hmay
        have HDY := Lib.hid (fun X => rday_any y m d X)
        rw [show dayE y m d = dayOf y m d by unfold dayE; rw [if_pos hmay], mayE_yes hmay] at HDY
        obtain ⟨K, hK⟩ : ∃ K, K = dayOf y m d := ⟨_, rfl⟩
        rw [← hK] at HDY hb
        have HWD := Lib.hid (fun X => HWK.out K X)
        rw [show wkB K = wkday K by unfold wkB; rw [if_pos hb]] at HWD
        have hiff : wkday K = wd ↔ (d - F) % 7 = 0 := by rw [hK, HF.out]; exact wk_iff y m wd d HW.out.1 HW.out.2
        obtain ⟨V, hV⟩ : ∃ V, V = wkday K := ⟨_, rfl⟩
        rw [← hV] at HWD hiff
        have HMB := Lib.hid hMB
        have HLB := Lib.hid hLB
        have HLT := Lib.hid hlt
        clear hmay hb hK hV hMB hLB hlt
        by_cases hwd : V = wd
        · have h7 := hiff.1 hwd
          have gw : (V != wd) = false := by simp [hwd]
          have e1 : metB F (d + 1) = MB + 1 := by rw [HMB.out]; unfold metB; omega
          have e2 : lastB F (d + 1) = d := by
            unfold lastB
            rw [e1, if_neg (by omega), HMB.out]
            unfold metB; omega
          have H7 := Lib.hid h7
          have E1 := Lib.hid e1
          have E2 := Lib.hid e2
          clear hiff hwd h7 e1 e2
          by_cases hret : MB + 1 = n
          · exact absurd hret (by omega)
          · have gr : (MB + 1 == n) = false := by simp [hret]
            have HRET := Lib.hid hret
            clear hret
            go_wp2_with (first
              | (go_at_call 66; refine (HDS.out _).mono ?_; rintro e w' ⟨rfl, rfl⟩)
              | (go_at_call 100; refine (HDY.out _).mono ?_; rintro e w' ⟨rfl, rfl⟩)
              | (go_at_call 67; refine (HWD.out _).mono ?_; rintro e w' ⟨rfl, rfl⟩))
            go_roundw
            case rel => exact ⟨d + 1, by omega, by omega, rfl, by rw [E1.out], by rw [E2.out], by rw [E1.out]; have := HLT.out; have := HRET.out; omega, trivial⟩
            case measure => simp [intOf]; omega
        · have gw : (V != wd) = true := by simp [hwd]
          have h7 : (d - F) % 7 ≠ 0 := fun h => hwd (hiff.2 h)
          have e1 : metB F (d + 1) = MB := by rw [HMB.out]; unfold metB; omega
          have e2 : lastB F (d + 1) = LB := by
            rw [HLB.out]
            unfold lastB
            rw [e1, HMB.out]
          have E1 := Lib.hid e1
          have E2 := Lib.hid e2
          clear hiff hwd h7 e1 e2
          go_wp2_with (first
            | (go_at_call 66; refine (HDS.out _).mono ?_; rintro e w' ⟨rfl, rfl⟩)
            | (go_at_call 100; refine (HDY.out _).mono ?_; rintro e w' ⟨rfl, rfl⟩)
            | (go_at_call 67; refine (HWD.out _).mono ?_; rintro e w' ⟨rfl, rfl⟩))
          go_roundw
          case rel => exact ⟨d + 1, by omega, by omega, rfl, by rw [E1.out], by rw [E2.out], by rw [E1.out]; exact HLT.out, trivial⟩
          case measure => simp [intOf]; omega
      · have hd : d = L + 1 := by omega
        have hgt : L < d := by omega
        have HMB := Lib.hid hMB
        have HLB := Lib.hid hLB
        have HLT := Lib.hid hlt
        clear hMB hLB hlt hle
        have HDD := Lib.hid hd
        clear hd
        go_wp2_with (first
          | (go_at_call 66; refine (HDS.out _).mono ?_; rintro e w' ⟨rfl, rfl⟩))
        go_ret2
        have hyes : NthIs y m wd n := ⟨HM.out, HW.out, .inl hn1⟩
        have hD : nthD y m wd n = LB := by
          unfold nthD
          rw [if_pos hn1, ← HF.out, ← HL.out, HLB.out]
          have h1 := HMB.out
          have h2 := HDD.out
          unfold lastB
          have h3 : metB F d ≠ 0 := by unfold metB; omega
          rw [if_neg h3]
          unfold metB
          omega
        rw [HR.out, if_pos hyes, hD]
        exact ⟨rfl, rfl⟩
theorem rnth_yes (y m wd n : Int) (h : NthIs y m wd n) (w : World) :
    Calls Tryz.prog 99 #[.int .i64 y, .int .i64 m, .int .i64 wd, .int .i64 n] w fun e w' => e = .returned (.tuple #[.int .i64 (nthD y m wd n), .int .i64 0]) ∧ w = w' := by
  have := rnth_good y m wd n h.1 h.2.1.1 h.2.1.2 (by have := h.2.2; omega) w
  rw [if_pos h] at this
  exact this
theorem rnth_no (y m wd n : Int) (h : ¬ NthIs y m wd n) (w : World) :
    Calls Tryz.prog 99 #[.int .i64 y, .int .i64 m, .int .i64 wd, .int .i64 n] w fun e w' => e = .returned (.tuple #[.int .i64 0, .int .i64 60]) ∧ w = w' := by
  by_cases hc : May y m 1 ∧ (1 ≤ wd ∧ wd ≤ 7) ∧ (n = -1 ∨ (1 ≤ n ∧ n ≤ 5))
  · have := rnth_good y m wd n hc.1 hc.2.1.1 hc.2.1.2 hc.2.2 w
    rw [if_neg h] at this
    exact this
  · exact rnth_bad y m wd n hc w
end Go.Proofs.YtbffmobjiiicoaaGreatDoor
end
