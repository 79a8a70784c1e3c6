/- Contracts of the program's Edges, Offset, Local, Day. -/
import Derived.Test.YtobnlcmamnoefaaDoorYLocal
set_option linter.unusedVariables false
set_option linter.unusedSimpArgs false
namespace Go.Proofs.YtobnlcmamnoefaaDoor
open Go.RowKit Go.Shelf
theorem at_bounds {y m w n t : Int} (hy : 1970 ≤ y ∧ y ≤ 9999) (h : ChIs m w n t) : 0 ≤ atV y m w n t ∧ atV y m w n t < 253402300800 := by
  have hM := nth_may (nth_is_of hy h)
  have hb := day_bounds hM
  obtain ⟨_, _, _, h4⟩ := h
  unfold atV
  omega
set_option maxRecDepth 100000 in
set_option maxHeartbeats 4000000 in
/-- Edges of a year with a rule. -/
theorem edgesZ_yes (off : Int) (a : Option Addr) (len cap : Nat) (R : Nat → Rl) (y : Int) (w : World) (hR : RulesAt w.heap.size w a len R) (hz : ZoneIs off R len) (hT : Tabs w) (k : Nat) (hk : k < len) (hi : ruleI R len y = k) (hy : (R k).of y) :
    Calls Tryd.prog 12 #[zoneV off a len cap, .int .i64 y] w fun e w' => e = .returned (.tuple #[.int .i64 (onOf (R k) y - off), .int .i64 (offOf (R k) y - off), .bool true]) ∧ Below w.heap.size w w' := by
  have hl : len ≤ 1000 := by have := hz.2.1; omega
  have hb0 := (Below.refl _ w).alloc (Nat.le_refl _) (.cells #[.int .i64 off, .slice a len cap] 24)
  have hg0 := heap_alloc_new w (.cells #[.int .i64 off, .slice a len cap] 24)
  have H1 := Lib.hid (ofZ_any off a len cap R y _ hl ((hR.next hb0).mono hb0.size))
  obtain ⟨e1, e2⟩ := ruleR_some hi
  rw [show ofR off R len y = R k by unfold ofR; rw [if_pos hz, e1], show ofB off R len y = true by unfold ofB; rw [if_pos hz, e2]] at H1
  have hrz := hz.2.2 k hk
  have hyy := rl_year hrz hy
  have hoff := hz.1
  have hv1 := at_bounds hyy hrz.2.2.1
  have hv2 := at_bounds hyy hrz.2.2.2
  have H2 := Lib.hid (fun X hX => changesOf_any (R k) y X hrz hy hX)
  rw [show atV y (R k).m1 (R k).w1 (R k).n1 (R k).t1 = onOf (R k) y from rfl] at hv1
  rw [show atV y (R k).m2 (R k).w2 (R k).n2 (R k).t2 = offOf (R k) y from rfl] at hv2
  obtain ⟨V1, hV1⟩ : ∃ v, v = onOf (R k) y := ⟨_, rfl⟩
  obtain ⟨V2, hV2⟩ : ∃ v, v = offOf (R k) y := ⟨_, rfl⟩
  rw [← hV1] at H2 hv1 ⊢
  rw [← hV2] at H2 hv2 ⊢
  obtain ⟨r, hr⟩ : ∃ r, r = R k := ⟨_, rfl⟩
  rw [← hr] at H1 H2
  have HB := Lib.hid hb0
  have HT := Lib.hid (hT.next hb0)
  have HG := Lib.hid hg0
  have HW1 := Lib.hid (show IntKind.i64.wrap (V1 - off) = V1 - off from by simp only [IntKind.wrap_i64, wrap64]; omega)
  have HW2 := Lib.hid (show IntKind.i64.wrap (V2 - off) = V2 - off from by simp only [IntKind.wrap_i64, wrap64]; omega)
  clear hV1 hV2 hr hrz hyy e1 e2 hi hy hk hz hR hT hb0 hg0 hl
  obtain ⟨f, l, m1, w1, n1, t1, m2, w2, n2, t2, x⟩ := r
  go_enter Tryd.func12, Tryd.ntmps12
  go_wp2_with fail
  refine H1.out.mono ?_
  rintro e X ⟨rfl, hB1⟩
  have hb1 := HB.out.trans (hB1.mono HB.out.size)
  have hg1 := (hB1.block w.heap.size (Array.getElem?_eq_some_iff.1 HG.out).1).trans HG.out
  have hlx : w.heap.size < X.heap.size := (Array.getElem?_eq_some_iff.1 hg1).1
  have HBX := Lib.hid (hb1.alloc hb1.size (.cells #[.int .i64 f, .int .i64 l, .int .i64 m1, .int .i64 w1, .int .i64 n1, .int .i64 t1, .int .i64 m2, .int .i64 w2, .int .i64 n2, .int .i64 t2, .int .i64 x] 31))
  have HTX := Lib.hid (HT.out.next (hB1.alloc hB1.size (.cells #[.int .i64 f, .int .i64 l, .int .i64 m1, .int .i64 w1, .int .i64 n1, .int .i64 t1, .int .i64 m2, .int .i64 w2, .int .i64 n2, .int .i64 t2, .int .i64 x] 31)))
  have HGX := Lib.hid (heap_old hg1 (.cells #[.int .i64 f, .int .i64 l, .int .i64 m1, .int .i64 w1, .int .i64 n1, .int .i64 t1, .int .i64 m2, .int .i64 w2, .int .i64 n2, .int .i64 t2, .int .i64 x] 31))
  clear hB1 hb1 hg1 H1 HB HT HG
  go_wp2_with fail
  refine (H2.out _ HTX.out).mono ?_
  rintro e Y ⟨rfl, hB2⟩
  have hby := HBX.out.trans (hB2.mono HBX.out.size)
  have hgy := (hB2.block w.heap.size (Array.getElem?_eq_some_iff.1 HGX.out).1).trans HGX.out
  have z0 : Y.cell? ⟨w.heap.size, 0, none⟩ = some (.int .i64 off) := cell_of_row Y _ 0 _ _ _ hgy
  have HBY := Lib.hid hby.drew
  clear hB2 hby hgy HBX HTX HGX H2
  go_wp2_with fail
  go_region_held3 (fun w' => w'.cell? ⟨w.heap.size, 0, none⟩ = some (.int .i64 off))
    (first | exact z0 | go_keep)
    (first | fail)
  all_goals
    rw [HW1.out, HW2.out]
    go_wp2
    go_ret3
    exact ⟨rfl, HBY.out⟩
set_option maxRecDepth 100000 in
set_option maxHeartbeats 4000000 in
/-- Edges of a year without a rule, or of no zone. -/
theorem edgesZ_no (off : Int) (a : Option Addr) (len cap : Nat) (R : Nat → Rl) (y : Int) (w : World) (hl : len ≤ 1000) (hR : RulesAt w.heap.size w a len R) (h : ¬ ZoneIs off R len ∨ ruleI R len y = -1) :
    Calls Tryd.prog 12 #[zoneV off a len cap, .int .i64 y] w fun e w' => e = .returned (.tuple #[.int .i64 0, .int .i64 0, .bool false]) ∧ Below w.heap.size w w' := by
  have hb0 := (Below.refl _ w).alloc (Nat.le_refl _) (.cells #[.int .i64 off, .slice a len cap] 24)
  have H1 := Lib.hid (ofZ_any off a len cap R y _ hl ((hR.next hb0).mono hb0.size))
  have e2 : ofB off R len y = false := by
    unfold ofB
    rcases h with h | h
    · rw [if_neg h]
    · split
      · exact (ruleR_none h).2
      · rfl
  rw [e2] at H1
  obtain ⟨r, hr⟩ : ∃ r, r = ofR off R len y := ⟨_, rfl⟩
  rw [← hr] at H1
  have HB := Lib.hid hb0
  clear hr hb0 hR hl h e2
  obtain ⟨f, l, m1, w1, n1, t1, m2, w2, n2, t2, x⟩ := r
  go_enter Tryd.func12, Tryd.ntmps12
  go_wp2_with fail
  refine H1.out.mono ?_
  rintro e X ⟨rfl, hB1⟩
  have hb1 := HB.out.trans (hB1.mono HB.out.size)
  have HBX := Lib.hid (hb1.alloc hb1.size (.cells #[.int .i64 f, .int .i64 l, .int .i64 m1, .int .i64 w1, .int .i64 n1, .int .i64 t1, .int .i64 m2, .int .i64 w2, .int .i64 n2, .int .i64 t2, .int .i64 x] 31))
  clear hB1 hb1 H1 HB
  go_wp2
  go_ret3
  exact ⟨rfl, HBX.out⟩
set_option maxRecDepth 100000 in
set_option maxHeartbeats 4000000 in
/-- Offset, by what localOf answers. -/
theorem offsetZ_walk (off t : Int) (a : Option Addr) (len cap : Nat) (R : Nat → Rl) (w : World) (hR : RulesAt w.heap.size w a len R) (u0 u1 u2 u3 u4 u5 N E G : Int)
    (HL : ∀ X, Below w.heap.size w X → Calls Tryd.prog 35 #[zoneV off a len cap, .int .i64 t] X fun e w' => e = .returned (.tuple #[momV u0 u1 u2 u3 u4 u5, .int .i64 N, .int .i64 E]) ∧ Below X.heap.size X w')
    (hE : (E = 0 ∧ (-50400 ≤ off ∧ off ≤ 50400) ∧ (0 ≤ N ∧ N ≤ 7200) ∧ G = off + N) ∨ (E = 60 ∧ G = 0) ∨ (E = 70 ∧ G = 0)) :
    Calls Tryd.prog 13 #[zoneV off a len cap, .int .i64 t] w fun e w' => e = .returned (.tuple #[.int .i64 G, .int .i64 E]) ∧ Below w.heap.size w w' := by
  have hb0 := (Below.refl _ w).alloc (Nat.le_refl _) (.cells #[.int .i64 off, .slice a len cap] 24)
  have hg0 := heap_alloc_new w (.cells #[.int .i64 off, .slice a len cap] 24)
  have H1 := Lib.hid (HL _ hb0)
  have HB := Lib.hid hb0
  have HG := Lib.hid hg0
  have HE := Lib.hid hE
  clear hb0 hg0 hR HL hE
  go_enter Tryd.func13, Tryd.ntmps13
  go_wp2_with fail
  refine H1.out.mono ?_
  rintro e X ⟨rfl, hB1⟩
  have hb1 := HB.out.trans (hB1.mono HB.out.size)
  have hg1 := (hB1.block w.heap.size (Array.getElem?_eq_some_iff.1 HG.out).1).trans HG.out
  have hlx : w.heap.size < X.heap.size := (Array.getElem?_eq_some_iff.1 hg1).1
  have z0 : X.cell? ⟨w.heap.size, 0, none⟩ = some (.int .i64 off) := cell_of_row X _ 0 _ _ _ hg1
  have HBX := Lib.hid (hb1.alloc hb1.size (.cells #[.int .i64 u0, .int .i64 u1, .int .i64 u2, .int .i64 u3, .int .i64 u4, .int .i64 u5] 44))
  clear hB1 hb1 hg1 H1 HB HG
  rcases HE.out with ⟨rfl, ho, hn, rfl⟩ | ⟨rfl, rfl⟩ | ⟨rfl, rfl⟩
  all_goals
    clear HE
    go_wp2
    go_ret2
    exact ⟨rfl, HBX.out⟩
set_option maxRecDepth 100000 in
set_option maxHeartbeats 4000000 in
/-- Local, by what localOf answers. -/
theorem localZ_walk (off t : Int) (a : Option Addr) (len cap : Nat) (R : Nat → Rl) (w : World) (hR : RulesAt w.heap.size w a len R) (u0 u1 u2 u3 u4 u5 N E : Int)
    (HL : ∀ X, Below w.heap.size w X → Calls Tryd.prog 35 #[zoneV off a len cap, .int .i64 t] X fun e w' => e = .returned (.tuple #[momV u0 u1 u2 u3 u4 u5, .int .i64 N, .int .i64 E]) ∧ Below X.heap.size X w') :
    Calls Tryd.prog 17 #[zoneV off a len cap, .int .i64 t] w fun e w' => e = .returned (.tuple #[momV u0 u1 u2 u3 u4 u5, .bool (N != 0), .int .i64 E]) ∧ Below w.heap.size w w' := by
  have hb0 := (Below.refl _ w).alloc (Nat.le_refl _) (.cells #[.int .i64 off, .slice a len cap] 24)
  have hb1 := hb0.alloc hb0.size (.cells #[.int .i64 0, .int .i64 0, .int .i64 0, .int .i64 0, .int .i64 0, .int .i64 0] 44)
  have hg := heap_alloc_new (w.alloc (.cells #[.int .i64 off, .slice a len cap] 24)) (.cells #[.int .i64 0, .int .i64 0, .int .i64 0, .int .i64 0, .int .i64 0, .int .i64 0] 44)
  rw [World.size_alloc] at hg
  have H1 := Lib.hid (HL _ hb1)
  have HB := Lib.hid hb1
  have HG := Lib.hid hg
  clear hb0 hb1 hg hR HL
  go_enter Tryd.func17, Tryd.ntmps17
  go_wp2_with fail
  refine H1.out.mono ?_
  rintro e X ⟨rfl, hB1⟩
  have hb := HB.out.trans (hB1.mono HB.out.size)
  have hg := (hB1.block (w.heap.size + 1) (Array.getElem?_eq_some_iff.1 HG.out).1).trans HG.out
  have a0 : X.cell? ⟨w.heap.size + 1, 0, none⟩ = some (.int .i64 0) := cell_of_row X _ 0 _ _ _ hg
  have a1 : X.cell? ⟨w.heap.size + 1, 1, none⟩ = some (.int .i64 0) := cell_of_row X _ 1 _ _ _ hg
  have a2 : X.cell? ⟨w.heap.size + 1, 2, none⟩ = some (.int .i64 0) := cell_of_row X _ 2 _ _ _ hg
  have a3 : X.cell? ⟨w.heap.size + 1, 3, none⟩ = some (.int .i64 0) := cell_of_row X _ 3 _ _ _ hg
  have a4 : X.cell? ⟨w.heap.size + 1, 4, none⟩ = some (.int .i64 0) := cell_of_row X _ 4 _ _ _ hg
  have a5 : X.cell? ⟨w.heap.size + 1, 5, none⟩ = some (.int .i64 0) := cell_of_row X _ 5 _ _ _ hg
  have f0 := frozen_of_row X (w.heap.size + 1) 0 _ _ hg
  have f1 := frozen_of_row X (w.heap.size + 1) 1 _ _ hg
  have f2 := frozen_of_row X (w.heap.size + 1) 2 _ _ hg
  have f3 := frozen_of_row X (w.heap.size + 1) 3 _ _ hg
  have f4 := frozen_of_row X (w.heap.size + 1) 4 _ _ hg
  have f5 := frozen_of_row X (w.heap.size + 1) 5 _ _ hg
  have hput := mom_put u0 u1 u2 u3 u4 u5 hg
  have hputB := mom_putB u0 u1 u2 u3 u4 u5 hb (Nat.le_succ w.heap.size)
  clear hB1 hb hg HB HG H1
  go_upto_region 2 with fail
  obtain ⟨V8, hV8⟩ : ∃ Q8 : World, Q8 = ((((((X.setCell ⟨w.heap.size + 1, 0, none⟩ (.int .i64 u0)).setCell ⟨w.heap.size + 1, 1, none⟩ (.int .i64 u1)).setCell ⟨w.heap.size + 1, 2, none⟩ (.int .i64 u2)).setCell ⟨w.heap.size + 1, 3, none⟩ (.int .i64 u3)).setCell ⟨w.heap.size + 1, 4, none⟩ (.int .i64 u4)).setCell ⟨w.heap.size + 1, 5, none⟩ (.int .i64 u5)) := ⟨_, rfl⟩
  rw [← hV8] at hput hputB ⊢
  have b0 : V8.cell? ⟨w.heap.size + 1, 0, none⟩ = some (.int .i64 u0) := cell_of_row V8 _ 0 _ _ _ hput
  have b1 : V8.cell? ⟨w.heap.size + 1, 1, none⟩ = some (.int .i64 u1) := cell_of_row V8 _ 1 _ _ _ hput
  have b2 : V8.cell? ⟨w.heap.size + 1, 2, none⟩ = some (.int .i64 u2) := cell_of_row V8 _ 2 _ _ _ hput
  have b3 : V8.cell? ⟨w.heap.size + 1, 3, none⟩ = some (.int .i64 u3) := cell_of_row V8 _ 3 _ _ _ hput
  have b4 : V8.cell? ⟨w.heap.size + 1, 4, none⟩ = some (.int .i64 u4) := cell_of_row V8 _ 4 _ _ _ hput
  have b5 : V8.cell? ⟨w.heap.size + 1, 5, none⟩ = some (.int .i64 u5) := cell_of_row V8 _ 5 _ _ _ hput
  have e0 := frozen_of_row V8 (w.heap.size + 1) 0 _ _ hput
  have e1 := frozen_of_row V8 (w.heap.size + 1) 1 _ _ hput
  have e2 := frozen_of_row V8 (w.heap.size + 1) 2 _ _ hput
  have e3 := frozen_of_row V8 (w.heap.size + 1) 3 _ _ hput
  have e4 := frozen_of_row V8 (w.heap.size + 1) 4 _ _ hput
  have e5 := frozen_of_row V8 (w.heap.size + 1) 5 _ _ hput
  have hput3 := mom_put u0 u1 u2 u3 u4 u5 hput
  have hputB3 := mom_putB u0 u1 u2 u3 u4 u5 hputB (Nat.le_succ w.heap.size)
  have HP3 := Lib.hid hput3
  have HQ3 := Lib.hid hputB3
  clear hput hputB hput3 hputB3 hV8 a0 a1 a2 a3 a4 a5 f0 f1 f2 f3 f4 f5
  go_wp2
  refine bodyPost_ret (results_local rfl rfl rfl HP3.out) rfl ?_
  exact ⟨rfl, HQ3.out⟩
set_option maxRecDepth 100000 in
set_option maxHeartbeats 4000000 in
/-- Day, refused. -/
theorem dayZ_no (off t : Int) (a : Option Addr) (len cap : Nat) (R : Nat → Rl) (w : World) (hR : RulesAt w.heap.size w a len R) (u0 u1 u2 u3 u4 u5 N E : Int)
    (HL : ∀ X, Below w.heap.size w X → Calls Tryd.prog 35 #[zoneV off a len cap, .int .i64 t] X fun e w' => e = .returned (.tuple #[momV u0 u1 u2 u3 u4 u5, .int .i64 N, .int .i64 E]) ∧ Below X.heap.size X w')
    (hE : E = 60 ∨ E = 70) :
    Calls Tryd.prog 18 #[zoneV off a len cap, .int .i64 t] w fun e w' => e = .returned (.tuple #[.int .i64 0, .int .i64 0, .int .i64 E]) ∧ Below w.heap.size w w' := by
  have hb0 := (Below.refl _ w).alloc (Nat.le_refl _) (.cells #[.int .i64 off, .slice a len cap] 24)
  have H1 := Lib.hid (HL _ hb0)
  have HB := Lib.hid hb0
  clear hb0 hR HL
  go_enter Tryd.func18, Tryd.ntmps18
  go_wp2_with fail
  refine H1.out.mono ?_
  rintro e X ⟨rfl, hB1⟩
  have hb1 := HB.out.trans (hB1.mono HB.out.size)
  have HBX := Lib.hid (hb1.alloc hb1.size (.cells #[.int .i64 u0, .int .i64 u1, .int .i64 u2, .int .i64 u3, .int .i64 u4, .int .i64 u5] 44))
  clear hB1 hb1 H1 HB
  rcases hE with rfl | rfl
  all_goals
    go_wp2
    go_ret3
    exact ⟨rfl, HBX.out⟩
set_option maxRecDepth 100000 in
set_option maxHeartbeats 4000000 in
theorem dayZ_walk (off t : Int) (a : Option Addr) (len cap : Nat) (R : Nat → Rl) (w : World) (hR : RulesAt w.heap.size w a len R) (hT : Tabs w) (u0 u1 u2 u3 u4 u5 N D : Int)
    (HL : ∀ X, Below w.heap.size w X → Calls Tryd.prog 35 #[zoneV off a len cap, .int .i64 t] X fun e w' => e = .returned (.tuple #[momV u0 u1 u2 u3 u4 u5, .int .i64 N, .int .i64 0]) ∧ Below X.heap.size X w')
    (hD : IsDate D u0 u1 u2) (h3 : 0 ≤ u3 ∧ u3 < 24) (h4 : 0 ≤ u4 ∧ u4 < 60) :
    Calls Tryd.prog 18 #[zoneV off a len cap, .int .i64 t] w fun e w' => e = .returned (.tuple #[.int .i64 D, .int .i64 (u3 * 60 + u4), .int .i64 0]) ∧ Below w.heap.size w w' := by
  have hb0 := (Below.refl _ w).alloc (Nat.le_refl _) (.cells #[.int .i64 off, .slice a len cap] 24)
  have H1 := Lib.hid (HL _ hb0)
  have HB := Lib.hid hb0
  have H2 := Lib.hid (fun X (hX : Below w.heap.size w X) => day_is D u0 u1 u2 hD X (hT.next hX))
  have HW1 := Lib.hid (show IntKind.i64.wrap (u3 * 60) = u3 * 60 from by simp only [IntKind.wrap_i64, wrap64]; omega)
  have HW2 := Lib.hid (show IntKind.i64.wrap (u3 * 60 + u4) = u3 * 60 + u4 from by simp only [IntKind.wrap_i64, wrap64]; omega)
  clear hb0 hR HL hD hT
  go_enter Tryd.func18, Tryd.ntmps18
  go_wp2_with fail
  refine H1.out.mono ?_
  rintro e X ⟨rfl, hB1⟩
  have hb1 := HB.out.trans (hB1.mono HB.out.size)
  have HBX := Lib.hid (hb1.alloc hb1.size (.cells #[.int .i64 u0, .int .i64 u1, .int .i64 u2, .int .i64 u3, .int .i64 u4, .int .i64 u5] 44))
  have HGX := Lib.hid (heap_alloc_new X (.cells #[.int .i64 u0, .int .i64 u1, .int .i64 u2, .int .i64 u3, .int .i64 u4, .int .i64 u5] 44))
  clear hB1 hb1 H1 HB
  go_wp2_with fail
  refine (H2.out _ HBX.out).mono ?_
  rintro e Y ⟨rfl, hB2⟩
  have hby := HBX.out.trans (hB2.mono HBX.out.size)
  have hgy := (hB2.block X.heap.size (Array.getElem?_eq_some_iff.1 HGX.out).1).trans HGX.out
  have s3 : Y.cell? ⟨X.heap.size, 3, none⟩ = some (.int .i64 u3) := cell_of_row Y _ 3 _ _ _ hgy
  have s4 : Y.cell? ⟨X.heap.size, 4, none⟩ = some (.int .i64 u4) := cell_of_row Y _ 4 _ _ _ hgy
  have HBY := Lib.hid hby.drew
  clear hB2 hby hgy HBX HGX H2
  go_wp2_with fail
  go_region_held3 (fun w' => w'.cell? ⟨X.heap.size, 3, none⟩ = some (.int .i64 u3) ∧ w'.cell? ⟨X.heap.size, 4, none⟩ = some (.int .i64 u4))
    (first | exact ⟨s3, s4⟩ | go_keep)
    (first | fail)
  all_goals
    rw [HW1.out, HW2.out]
    go_wp2
    go_ret3
    exact ⟨rfl, HBY.out⟩
end Go.Proofs.YtobnlcmamnoefaaDoor
