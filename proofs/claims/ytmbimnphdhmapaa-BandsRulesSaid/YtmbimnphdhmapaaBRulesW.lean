/- The statement BandsRules, walked. -/
import Derived.Test.YtmbimnphdhmapaaBTabP
import Derived.Test.YtmbimnphdhmapaaBRulesR
import Derived.Test.YtmbimnphdhmapaaBAlive
import Derived.Test.YtmbimnphdhmapaaBOpenN
set_option linter.unusedVariables false
set_option linter.unusedSimpArgs false
namespace Go.Proofs.Ytmbimnphdhmapaa
open Go.RowKit Go.Shelf
/-- Plan answers. -/
def PlanQ (e : Ending) : Prop := ∃ (p : Int) (is : Bool), e = .returned (.tuple #[.int .i64 p, .bool is])
theorem planQ_any (pa : Option Addr) (pl pc : Nat) (ra : Option Addr) (rl rc : Nat) (P : Nat → Pl) (R : Nat → Ru) (s kd : Int) (w : World) (hP : PlsAt w.heap.size w pa pl P) (hR : RusAt w.heap.size w ra rl R) (hlm : pl ≤ maxLen) (hrm : rl ≤ maxLen) :
    Calls Try.prog 20 #[tabV pa pl pc ra rl rc, .int .i64 s, .int .i64 kd] w fun e w' => PlanQ e ∧ Below w.heap.size w w' := by
  by_cases h : PlanMay P pl R rl s kd
  · refine (planT_yes pa pl pc ra rl rc P R s kd h w hP hR hlm hrm).mono ?_
    rintro e w' ⟨⟨p, hp, rfl⟩, hB⟩
    exact ⟨⟨p, true, rfl⟩, hB⟩
  · refine (planT_no pa pl pc ra rl rc P R s kd h w hP hR hlm hrm).mono ?_
    rintro e w' ⟨rfl, hB⟩
    exact ⟨⟨0, false, rfl⟩, hB⟩
set_option maxRecDepth 100000 in
set_option maxHeartbeats 8000000 in
theorem rulesW_few (pa : Option Addr) (pl pc : Nat) (ra : Option Addr) (rl rc : Nat) (P : Nat → Pl) (R : Nat → Ru) (s kd q : Int) (hyes : PlanMay P pl R rl s kd) (hq0 : 0 ≤ q) (hq1 : q ≤ 255) (hrl : rl ≤ 90) (w : World) (hP : PlsAt w.heap.size w pa pl P) (hR : RusAt w.heap.size w ra rl R) (hlm : pl ≤ maxLen) (hrm : rl ≤ maxLen) (hn : ra = none → rl = 0 ∧ rc = 0) :
    Calls Try.prog 6 #[tabV pa pl pc ra rl rc, .int .i64 s, .int .i64 kd, .int .u8 q] w fun e w' => e = .returned (.bool true) ∧ Below w.heap.size w w' := by
  have hz := heap_alloc_new w (.cells #[.slice pa pl pc, .slice ra rl rc] 41)
  have hb0 := (Below.refl _ w).alloc (Nat.le_refl _) (.cells #[.slice pa pl pc, .slice ra rl rc] 41)
  have hxs : (w.alloc (.cells #[.slice pa pl pc, .slice ra rl rc] 41)).heap.size = w.heap.size + 1 := World.size_alloc _ _
  have HAL := Lib.hid (alive_any (w.alloc (.cells #[.slice pa pl pc, .slice ra rl rc] 41)))
  have HZ := Lib.hid hz
  have HB0 := Lib.hid hb0
  have HXS := Lib.hid hxs
  have HP := Lib.hid (fun (W : World) (hB : Below w.heap.size w W) => (hP.next hB (Nat.le_refl _) (Nat.le_refl _)).mono hB.size)
  have HR := Lib.hid (fun (W : World) (hB : Below w.heap.size w W) => (hR.next hB (Nat.le_refl _) (Nat.le_refl _)).mono hB.size)
  have hp1 := hyes.1.1
  have hp2 := hyes.1.2.1
  have HY := Lib.hid hyes
  clear hz hb0 hxs hyes hP hR
  go_enter Try.func6, Try.ntmps6
  go_wp2_with fail
  refine HAL.out.mono ?_
  rintro e w1 ⟨rfl, hB1⟩
  have hz1 := (hB1.block w.heap.size (by rw [HXS.out]; omega)).trans HZ.out
  have hs1 := hB1.size
  rw [HXS.out] at hs1
  have C1 := Lib.hid (HB0.out.trans (hB1.mono HB0.out.size))
  have Z1 := Lib.hid hz1
  obtain ⟨z0, z1⟩ : w1.cell? ⟨w.heap.size, 0, none⟩ = some (.slice pa pl pc) ∧ w1.cell? ⟨w.heap.size, 1, none⟩ = some (.slice ra rl rc) := ⟨cell_of_row _ _ 0 _ _ _ hz1, cell_of_row _ _ 1 _ _ _ hz1⟩
  clear hB1 hz1 HAL HB0 HZ
  go_wp2_with fail
  refine (planT_yes pa pl pc ra rl rc P R s kd HY.out w1 (HP.out w1 C1.out) (HR.out w1 C1.out) hlm hrm).mono ?_
  rintro e w2 ⟨⟨was, hwas, rfl⟩, hB2⟩
  have hz2 := (hB2.block w.heap.size (by omega)).trans Z1.out
  have hs2 := hB2.size
  have C2 := Lib.hid (C1.out.trans (hB2.mono C1.out.size))
  have Z2 := Lib.hid hz2
  obtain ⟨y0, y1⟩ : w2.cell? ⟨w.heap.size, 0, none⟩ = some (.slice pa pl pc) ∧ w2.cell? ⟨w.heap.size, 1, none⟩ = some (.slice ra rl rc) := ⟨cell_of_row _ _ 0 _ _ _ hz2, cell_of_row _ _ 1 _ _ _ hz2⟩
  have HWAS := Lib.hid hwas
  clear hB2 hz2 hwas z0 z1 C1 Z1
  have g1 : ¬ ((90 : Int) < rl) := by omega
  have g2 : ¬ ((60 : Int) < pl) := by omega
  have g3 : (pl : Int) ≠ 0 := by omega
  have g4 : ((pl : Int) == 0) = false := by simp; omega
  have HN := Lib.hid hn
  have HMX := Lib.hid (show Try.prog.follows .mixedOrders = true by kernel_rfl)
  clear hn
  go_wp2_with fail
  obtain ⟨W0, hW0⟩ : ∃ X, w2.alloc (.cells #[.int .i64 0, .int .i64 0, .int .i64 (q % pl)] 48) = X := ⟨_, rfl⟩
  rw [hW0]
  have HC3 : Below w.heap.size w W0 ∧ Below w2.heap.size w2 W0 ∧ W0.heap[w2.heap.size]? = some (.cells #[.int .i64 0, .int .i64 0, .int .i64 (q % pl)] 48) ∧ W0.heap.size = w2.heap.size + 1 := by
    rw [← hW0]
    exact ⟨C2.out.alloc (by omega) _, (Below.refl _ w2).alloc (Nat.le_refl _) _, heap_alloc_new w2 _, World.size_alloc _ _⟩
  have C3 := Lib.hid HC3.1
  have HS3 : Hid (w.heap.size ≤ W0.heap.size) := Lib.hid (by have := HC3.2.2.2; omega)
  have HS2 : Hid (w.heap.size + 1 ≤ w2.heap.size) := Lib.hid (by omega)
  have HZ3 := Lib.hid ((HC3.2.1.block w.heap.size (by omega)).trans Z2.out)
  have HA3 := Lib.hid HC3.2.2.1
  have HS4 := Lib.hid HC3.2.2.2
  have HLEN : Hid (((List.range rl).map R ++ [(⟨0, 0, q % pl⟩ : Ru)]).length = rl + 1) := Lib.hid (by simp)
  have CL : Hid (∀ W, Below W0.heap.size W0 W → W.cell? ⟨w.heap.size, 0, none⟩ = some (.slice pa pl pc) ∧ W.cell? ⟨w.heap.size, 1, none⟩ = some (.slice ra rl rc) ∧ W.cell? ⟨w2.heap.size, 0, none⟩ = some (.int .i64 0) ∧ W.cell? ⟨w2.heap.size, 1, none⟩ = some (.int .i64 0) ∧ W.cell? ⟨w2.heap.size, 2, none⟩ = some (.int .i64 (q % pl))) := Lib.hid (fun W hW => by
    have e1 := (hW.block w.heap.size (by rw [HS4.out]; have := HS2.out; omega)).trans HZ3.out
    have e2 := (hW.block w2.heap.size (by rw [HS4.out]; omega)).trans HA3.out
    exact ⟨cell_of_row _ _ 0 _ _ _ e1, cell_of_row _ _ 1 _ _ _ e1, cell_of_row _ _ 0 _ _ _ e2, cell_of_row _ _ 1 _ _ _ e2, cell_of_row _ _ 2 _ _ _ e2⟩)
  clear HC3 y0 y1 hW0 C2 Z2 hs1 hs2
  refine cutR (fun a0 e a' W => e = .normal ∧ ∃ (x2 x5 x7 : Value) (a8 : Option Addr) (c8 g : Nat), a' = (((((((((((a0.put (some 56) (.pointer (some ⟨w.heap.size, 0, none⟩))).put (some 57) (.slice pa pl pc)).put (some 58) (x2)).put (some 59) (.pointer (some ⟨w.heap.size, 1, none⟩))).put (some 60) (.slice ra rl rc)).put (some 61) (x5)).put (some 62) (.agg #[.int .i64 0, .int .i64 0, .int .i64 (q % pl)])).put (some 63) (x7)).put (some 64) (.slice a8 (rl + 1) c8)).put (some 65) (.agg #[.slice pa pl pc, .slice a8 (rl + 1) c8])).put (some 13) (.pointer (some ⟨g, 0, none⟩))) ∧ Fin W0.heap.size W0 (.slice pa pl pc) ((List.range rl).map R ++ [⟨0, 0, q % pl⟩]) g (.slice a8 (rl + 1) c8) W) ?_ ?_
  ·
    refine regionL (fun W => Below W0.heap.size W0 W) 11 HMX.out ?_
    have q1 : Below W0.heap.size W0 W0.drew := ⟨rfl, rfl, rfl, Nat.le_refl _, fun _ _ => rfl⟩
    refine takeL (i := 0) (oi := { dst := some 56, op := Go.Op.fieldAddr 41 (Go.Operand.tmp 4) 0, type := 0, pos := "outright.go:115", after := #[], guard := none }) (v := .pointer (some ⟨w.heap.size, 0, none⟩)) [11] rfl (by kernel_rfl) (by kernel_rfl) (by kernel_rfl) (by kernel_rfl) (fun _ _ _ h => calm_panic h) rfl ?_ q1 ?_
    · intro W hW
      (try dsimp only at hW)
      obtain ⟨c0, c1, c2, c3, c4⟩ := CL.out W hW
      go_simp
    simp only [Act.put, List.setIfInBounds_toArray, List.set_cons_zero, List.set_cons_succ]
    refine takeL (i := 1) (oi := { dst := some 57, op := Go.Op.load 38 (Go.Operand.tmp 56), type := 38, pos := "outright.go:115", after := #[{ on := 0, ground := Go.Ground.data }], guard := none }) (v := .slice pa pl pc) [11] rfl (by kernel_rfl) (by kernel_rfl) (by kernel_rfl) (by kernel_rfl) (fun _ _ _ h => calm_panic h) rfl ?_ q1 ?_
    · intro W hW
      (try dsimp only at hW)
      obtain ⟨c0, c1, c2, c3, c4⟩ := CL.out W hW
      go_simp
    simp only [Act.put, List.setIfInBounds_toArray, List.set_cons_zero, List.set_cons_succ]
    refine takeL (i := 3) (oi := { dst := some 59, op := Go.Op.fieldAddr 41 (Go.Operand.tmp 4) 1, type := 0, pos := "outright.go:115", after := #[], guard := none }) (v := .pointer (some ⟨w.heap.size, 1, none⟩)) [11] rfl (by kernel_rfl) (by kernel_rfl) (by kernel_rfl) (by kernel_rfl) (fun _ _ _ h => calm_panic h) rfl ?_ q1 ?_
    · intro W hW
      (try dsimp only at hW)
      obtain ⟨c0, c1, c2, c3, c4⟩ := CL.out W hW
      go_simp
    simp only [Act.put, List.setIfInBounds_toArray, List.set_cons_zero, List.set_cons_succ]
    refine takeL (i := 4) (oi := { dst := some 60, op := Go.Op.load 39 (Go.Operand.tmp 59), type := 39, pos := "outright.go:115", after := #[{ on := 3, ground := Go.Ground.data }], guard := none }) (v := .slice ra rl rc) [11] rfl (by kernel_rfl) (by kernel_rfl) (by kernel_rfl) (by kernel_rfl) (fun _ _ _ h => calm_panic h) rfl ?_ q1 ?_
    · intro W hW
      (try dsimp only at hW)
      obtain ⟨c0, c1, c2, c3, c4⟩ := CL.out W hW
      go_simp
    simp only [Act.put, List.setIfInBounds_toArray, List.set_cons_zero, List.set_cons_succ]
    refine takeL (i := 6) (oi := { dst := some 62, op := Go.Op.load 48 (Go.Operand.tmp 12), type := 48, pos := "outright.go:115", after := #[], guard := none }) (v := .agg #[.int .i64 0, .int .i64 0, .int .i64 (q % pl)]) [11] rfl (by kernel_rfl) (by kernel_rfl) (by kernel_rfl) (by kernel_rfl) (fun _ _ _ h => calm_panic h) rfl ?_ q1 ?_
    · intro W hW
      (try dsimp only at hW)
      obtain ⟨c0, c1, c2, c3, c4⟩ := CL.out W hW
      go_simp
    simp only [Act.put, List.setIfInBounds_toArray, List.set_cons_zero, List.set_cons_succ]
    have R0 : RS W0.heap.size W0 W0.drew ((List.range rl).map R) ((List.range rl).map R ++ [⟨0, 0, q % pl⟩]) (⟨0, 0, q % pl⟩ : Ru) none none none none none := ⟨q1, Nat.le_refl _, fun g e => (by cases e), fun g e => (by cases e), fun g e => (by cases e), fun g e => (by cases e), fun g e => (by cases e)⟩
    refine threeL (i := 2) (j := 7) (k := 10) (o := { dst := some 58, op := Go.Op.buildSlice 39 0 #[], type := 39, pos := "outright.go:115", after := #[], guard := none }) (o' := { dst := some 63, op := Go.Op.buildSlice 39 1 #[(0, Go.Operand.tmp 62)], type := 39, pos := "outright.go:115", after := #[{ on := 6, ground := Go.Ground.data }], guard := none }) (o'' := { dst := some 13, op := Go.Op.alloc 41, type := 0, pos := "outright.go:115", after := #[], guard := none }) rfl rfl rfl (by kernel_rfl) rfl rfl rfl ?_ ?_ ?_
    ·
      refine R0.dotwo (by go_simp) ?_
      intro g1 X1 R1
      refine ⟨fun _ => R1.below, ?_⟩
      simp only [Act.put, List.setIfInBounds_toArray, List.set_cons_zero, List.set_cons_succ]
      refine threeL (i := 5) (j := 7) (k := 10) (o := { dst := some 61, op := Go.Op.call { callee := Go.Callee.builtin Go.Builtin.append, args := #[Go.Operand.tmp 58, Go.Operand.tmp 60], argTypes := #[39, 39] }, type := 39, pos := "outright.go:115", after := #[{ on := 2, ground := Go.Ground.data }, { on := 4, ground := Go.Ground.data }], guard := none }) (o' := { dst := some 63, op := Go.Op.buildSlice 39 1 #[(0, Go.Operand.tmp 62)], type := 39, pos := "outright.go:115", after := #[{ on := 6, ground := Go.Ground.data }], guard := none }) (o'' := { dst := some 13, op := Go.Op.alloc 41, type := 0, pos := "outright.go:115", after := #[], guard := none }) rfl rfl rfl (by kernel_rfl) rfl rfl rfl ?_ ?_ ?_
      ·
        refine R1.dofive rfl (.tmp 58) (.tmp 60) rfl rfl ra rl rc R rfl HN.out (HR.out X1 (C3.out.trans (R1.below.mono HS3.out))) rfl (by omega) ?_
        intro a2 c2 X2 R2
        refine ⟨fun _ => R2.below, ?_⟩
        simp only [Act.put, List.setIfInBounds_toArray, List.set_cons_zero, List.set_cons_succ]
        refine twoL (i := 7) (j := 10) (o := { dst := some 63, op := Go.Op.buildSlice 39 1 #[(0, Go.Operand.tmp 62)], type := 39, pos := "outright.go:115", after := #[{ on := 6, ground := Go.Ground.data }], guard := none }) (o' := { dst := some 13, op := Go.Op.alloc 41, type := 0, pos := "outright.go:115", after := #[], guard := none }) rfl rfl (by kernel_rfl) rfl rfl ?_ ?_
        ·
          refine R2.doseven (by go_simp) ?_
          intro g3 X3 R3
          refine ⟨fun _ => R3.below, ?_⟩
          simp only [Act.put, List.setIfInBounds_toArray, List.set_cons_zero, List.set_cons_succ]
          refine twoL (i := 8) (j := 10) (o := { dst := some 64, op := Go.Op.call { callee := Go.Callee.builtin Go.Builtin.append, args := #[Go.Operand.tmp 61, Go.Operand.tmp 63], argTypes := #[39, 39] }, type := 39, pos := "outright.go:115", after := #[{ on := 5, ground := Go.Ground.data }, { on := 7, ground := Go.Ground.data }, { on := 5, ground := Go.Ground.chain }], guard := none }) (o' := { dst := some 13, op := Go.Op.alloc 41, type := 0, pos := "outright.go:115", after := #[], guard := none }) rfl rfl (by kernel_rfl) rfl rfl ?_ ?_
          ·
            refine R3.doeight rfl (.tmp 61) (.tmp 63) rfl rfl rfl (by rfl) rfl (rl + 1) HLEN.out (by omega) ?_
            intro a4 c4 X4 R4
            refine ⟨fun _ => R4.below, ?_⟩
            simp only [Act.put, List.setIfInBounds_toArray, List.set_cons_zero, List.set_cons_succ]
            refine takeL (i := 9) (oi := { dst := some 65, op := Go.Op.build 41 #[(0, Go.Operand.tmp 57), (1, Go.Operand.tmp 64)], type := 41, pos := "outright.go:115", after := #[{ on := 1, ground := Go.Ground.data }, { on := 8, ground := Go.Ground.data }], guard := none }) (v := .agg #[.slice pa pl pc, .slice a4 (rl + 1) c4]) [11] rfl (by kernel_rfl) (by kernel_rfl) (by kernel_rfl) (by kernel_rfl) (fun _ _ _ h => calm_panic h) rfl ?_ R4.below ?_
            · intro W hW
              go_simp
            simp only [Act.put, List.setIfInBounds_toArray, List.set_cons_zero, List.set_cons_succ]
            refine oneL (i := 10) (o := { dst := some 13, op := Go.Op.alloc 41, type := 0, pos := "outright.go:115", after := #[], guard := none }) rfl (by kernel_rfl) rfl ?_
            refine R4.doten (by go_simp) ?_
            intro g5 X5 R5
            refine ⟨fun _ => R5.below, ?_⟩
            simp only [Act.put, List.setIfInBounds_toArray, List.set_cons_zero, List.set_cons_succ]
            obtain ⟨e0, e1, e2, e3⟩ := R5.cells10
            refine oneL (i := 11) (o := { dst := none, op := Go.Op.store 41 (Go.Operand.tmp 13) (Go.Operand.tmp 65), type := 0, pos := "outright.go:115", after := #[{ on := 10, ground := Go.Ground.data }, { on := 9, ground := Go.Ground.data }, { on := 8, ground := Go.Ground.chain }, { on := 0, ground := Go.Ground.phase }, { on := 1, ground := Go.Ground.phase }, { on := 2, ground := Go.Ground.phase }, { on := 3, ground := Go.Ground.phase }, { on := 4, ground := Go.Ground.phase }, { on := 5, ground := Go.Ground.phase }, { on := 6, ground := Go.Ground.phase }, { on := 7, ground := Go.Ground.phase }, { on := 8, ground := Go.Ground.phase }, { on := 9, ground := Go.Ground.phase }, { on := 10, ground := Go.Ground.phase }], guard := none }) rfl (by kernel_rfl) rfl ?_
            refine wp_by_skip (w' := (X5.setCell ⟨g5, 0, none⟩ (.slice pa pl pc)).setCell ⟨g5, 1, none⟩ (.slice a4 (rl + 1) c4)) (by go_simp) ?_
            refine ⟨fun h => absurd rfl h, ?_⟩
            refine doneL (by kernel_rfl) (Calm.normal ⟨rfl, (.slice (some ⟨g1, 0, none⟩) 0 0), (.slice a2 rl c2), (.slice (some ⟨g3, 0, none⟩) 1 1), a4, c4, g5, ?_, R5.fin⟩) _
            simp only [Act.put, List.setIfInBounds_toArray, List.set_cons_zero, List.set_cons_succ]
          ·
            refine R3.doten (by go_simp) ?_
            intro g6 X6 R6
            refine ⟨fun _ => R6.below, ?_⟩
            simp only [Act.put, List.setIfInBounds_toArray, List.set_cons_zero, List.set_cons_succ]
            refine oneL (i := 8) (o := { dst := some 64, op := Go.Op.call { callee := Go.Callee.builtin Go.Builtin.append, args := #[Go.Operand.tmp 61, Go.Operand.tmp 63], argTypes := #[39, 39] }, type := 39, pos := "outright.go:115", after := #[{ on := 5, ground := Go.Ground.data }, { on := 7, ground := Go.Ground.data }, { on := 5, ground := Go.Ground.chain }], guard := none }) rfl (by kernel_rfl) rfl ?_
            refine R6.doeight rfl (.tmp 61) (.tmp 63) rfl rfl rfl (by rfl) rfl (rl + 1) HLEN.out (by omega) ?_
            intro a7 c7 X7 R7
            refine ⟨fun _ => R7.below, ?_⟩
            simp only [Act.put, List.setIfInBounds_toArray, List.set_cons_zero, List.set_cons_succ]
            refine takeL (i := 9) (oi := { dst := some 65, op := Go.Op.build 41 #[(0, Go.Operand.tmp 57), (1, Go.Operand.tmp 64)], type := 41, pos := "outright.go:115", after := #[{ on := 1, ground := Go.Ground.data }, { on := 8, ground := Go.Ground.data }], guard := none }) (v := .agg #[.slice pa pl pc, .slice a7 (rl + 1) c7]) [11] rfl (by kernel_rfl) (by kernel_rfl) (by kernel_rfl) (by kernel_rfl) (fun _ _ _ h => calm_panic h) rfl ?_ R7.below ?_
            · intro W hW
              go_simp
            simp only [Act.put, List.setIfInBounds_toArray, List.set_cons_zero, List.set_cons_succ]
            obtain ⟨e0, e1, e2, e3⟩ := R7.cells10
            refine oneL (i := 11) (o := { dst := none, op := Go.Op.store 41 (Go.Operand.tmp 13) (Go.Operand.tmp 65), type := 0, pos := "outright.go:115", after := #[{ on := 10, ground := Go.Ground.data }, { on := 9, ground := Go.Ground.data }, { on := 8, ground := Go.Ground.chain }, { on := 0, ground := Go.Ground.phase }, { on := 1, ground := Go.Ground.phase }, { on := 2, ground := Go.Ground.phase }, { on := 3, ground := Go.Ground.phase }, { on := 4, ground := Go.Ground.phase }, { on := 5, ground := Go.Ground.phase }, { on := 6, ground := Go.Ground.phase }, { on := 7, ground := Go.Ground.phase }, { on := 8, ground := Go.Ground.phase }, { on := 9, ground := Go.Ground.phase }, { on := 10, ground := Go.Ground.phase }], guard := none }) rfl (by kernel_rfl) rfl ?_
            refine wp_by_skip (w' := (X7.setCell ⟨g6, 0, none⟩ (.slice pa pl pc)).setCell ⟨g6, 1, none⟩ (.slice a7 (rl + 1) c7)) (by go_simp) ?_
            refine ⟨fun h => absurd rfl h, ?_⟩
            refine doneL (by kernel_rfl) (Calm.normal ⟨rfl, (.slice (some ⟨g1, 0, none⟩) 0 0), (.slice a2 rl c2), (.slice (some ⟨g3, 0, none⟩) 1 1), a7, c7, g6, ?_, R7.fin⟩) _
            simp only [Act.put, List.setIfInBounds_toArray, List.set_cons_zero, List.set_cons_succ]
        ·
          refine R2.doten (by go_simp) ?_
          intro g8 X8 R8
          refine ⟨fun _ => R8.below, ?_⟩
          simp only [Act.put, List.setIfInBounds_toArray, List.set_cons_zero, List.set_cons_succ]
          refine oneL (i := 7) (o := { dst := some 63, op := Go.Op.buildSlice 39 1 #[(0, Go.Operand.tmp 62)], type := 39, pos := "outright.go:115", after := #[{ on := 6, ground := Go.Ground.data }], guard := none }) rfl (by kernel_rfl) rfl ?_
          refine R8.doseven (by go_simp) ?_
          intro g9 X9 R9
          refine ⟨fun _ => R9.below, ?_⟩
          simp only [Act.put, List.setIfInBounds_toArray, List.set_cons_zero, List.set_cons_succ]
          refine oneL (i := 8) (o := { dst := some 64, op := Go.Op.call { callee := Go.Callee.builtin Go.Builtin.append, args := #[Go.Operand.tmp 61, Go.Operand.tmp 63], argTypes := #[39, 39] }, type := 39, pos := "outright.go:115", after := #[{ on := 5, ground := Go.Ground.data }, { on := 7, ground := Go.Ground.data }, { on := 5, ground := Go.Ground.chain }], guard := none }) rfl (by kernel_rfl) rfl ?_
          refine R9.doeight rfl (.tmp 61) (.tmp 63) rfl rfl rfl (by rfl) rfl (rl + 1) HLEN.out (by omega) ?_
          intro a10 c10 X10 R10
          refine ⟨fun _ => R10.below, ?_⟩
          simp only [Act.put, List.setIfInBounds_toArray, List.set_cons_zero, List.set_cons_succ]
          refine takeL (i := 9) (oi := { dst := some 65, op := Go.Op.build 41 #[(0, Go.Operand.tmp 57), (1, Go.Operand.tmp 64)], type := 41, pos := "outright.go:115", after := #[{ on := 1, ground := Go.Ground.data }, { on := 8, ground := Go.Ground.data }], guard := none }) (v := .agg #[.slice pa pl pc, .slice a10 (rl + 1) c10]) [11] rfl (by kernel_rfl) (by kernel_rfl) (by kernel_rfl) (by kernel_rfl) (fun _ _ _ h => calm_panic h) rfl ?_ R10.below ?_
          · intro W hW
            go_simp
          simp only [Act.put, List.setIfInBounds_toArray, List.set_cons_zero, List.set_cons_succ]
          obtain ⟨e0, e1, e2, e3⟩ := R10.cells10
          refine oneL (i := 11) (o := { dst := none, op := Go.Op.store 41 (Go.Operand.tmp 13) (Go.Operand.tmp 65), type := 0, pos := "outright.go:115", after := #[{ on := 10, ground := Go.Ground.data }, { on := 9, ground := Go.Ground.data }, { on := 8, ground := Go.Ground.chain }, { on := 0, ground := Go.Ground.phase }, { on := 1, ground := Go.Ground.phase }, { on := 2, ground := Go.Ground.phase }, { on := 3, ground := Go.Ground.phase }, { on := 4, ground := Go.Ground.phase }, { on := 5, ground := Go.Ground.phase }, { on := 6, ground := Go.Ground.phase }, { on := 7, ground := Go.Ground.phase }, { on := 8, ground := Go.Ground.phase }, { on := 9, ground := Go.Ground.phase }, { on := 10, ground := Go.Ground.phase }], guard := none }) rfl (by kernel_rfl) rfl ?_
          refine wp_by_skip (w' := (X10.setCell ⟨g8, 0, none⟩ (.slice pa pl pc)).setCell ⟨g8, 1, none⟩ (.slice a10 (rl + 1) c10)) (by go_simp) ?_
          refine ⟨fun h => absurd rfl h, ?_⟩
          refine doneL (by kernel_rfl) (Calm.normal ⟨rfl, (.slice (some ⟨g1, 0, none⟩) 0 0), (.slice a2 rl c2), (.slice (some ⟨g9, 0, none⟩) 1 1), a10, c10, g8, ?_, R10.fin⟩) _
          simp only [Act.put, List.setIfInBounds_toArray, List.set_cons_zero, List.set_cons_succ]
      ·
        refine R1.doseven (by go_simp) ?_
        intro g11 X11 R11
        refine ⟨fun _ => R11.below, ?_⟩
        simp only [Act.put, List.setIfInBounds_toArray, List.set_cons_zero, List.set_cons_succ]
        refine twoL (i := 5) (j := 10) (o := { dst := some 61, op := Go.Op.call { callee := Go.Callee.builtin Go.Builtin.append, args := #[Go.Operand.tmp 58, Go.Operand.tmp 60], argTypes := #[39, 39] }, type := 39, pos := "outright.go:115", after := #[{ on := 2, ground := Go.Ground.data }, { on := 4, ground := Go.Ground.data }], guard := none }) (o' := { dst := some 13, op := Go.Op.alloc 41, type := 0, pos := "outright.go:115", after := #[], guard := none }) rfl rfl (by kernel_rfl) rfl rfl ?_ ?_
        ·
          refine R11.dofive rfl (.tmp 58) (.tmp 60) rfl rfl ra rl rc R rfl HN.out (HR.out X11 (C3.out.trans (R11.below.mono HS3.out))) rfl (by omega) ?_
          intro a12 c12 X12 R12
          refine ⟨fun _ => R12.below, ?_⟩
          simp only [Act.put, List.setIfInBounds_toArray, List.set_cons_zero, List.set_cons_succ]
          refine twoL (i := 8) (j := 10) (o := { dst := some 64, op := Go.Op.call { callee := Go.Callee.builtin Go.Builtin.append, args := #[Go.Operand.tmp 61, Go.Operand.tmp 63], argTypes := #[39, 39] }, type := 39, pos := "outright.go:115", after := #[{ on := 5, ground := Go.Ground.data }, { on := 7, ground := Go.Ground.data }, { on := 5, ground := Go.Ground.chain }], guard := none }) (o' := { dst := some 13, op := Go.Op.alloc 41, type := 0, pos := "outright.go:115", after := #[], guard := none }) rfl rfl (by kernel_rfl) rfl rfl ?_ ?_
          ·
            refine R12.doeight rfl (.tmp 61) (.tmp 63) rfl rfl rfl (by rfl) rfl (rl + 1) HLEN.out (by omega) ?_
            intro a13 c13 X13 R13
            refine ⟨fun _ => R13.below, ?_⟩
            simp only [Act.put, List.setIfInBounds_toArray, List.set_cons_zero, List.set_cons_succ]
            refine takeL (i := 9) (oi := { dst := some 65, op := Go.Op.build 41 #[(0, Go.Operand.tmp 57), (1, Go.Operand.tmp 64)], type := 41, pos := "outright.go:115", after := #[{ on := 1, ground := Go.Ground.data }, { on := 8, ground := Go.Ground.data }], guard := none }) (v := .agg #[.slice pa pl pc, .slice a13 (rl + 1) c13]) [11] rfl (by kernel_rfl) (by kernel_rfl) (by kernel_rfl) (by kernel_rfl) (fun _ _ _ h => calm_panic h) rfl ?_ R13.below ?_
            · intro W hW
              go_simp
            simp only [Act.put, List.setIfInBounds_toArray, List.set_cons_zero, List.set_cons_succ]
            refine oneL (i := 10) (o := { dst := some 13, op := Go.Op.alloc 41, type := 0, pos := "outright.go:115", after := #[], guard := none }) rfl (by kernel_rfl) rfl ?_
            refine R13.doten (by go_simp) ?_
            intro g14 X14 R14
            refine ⟨fun _ => R14.below, ?_⟩
            simp only [Act.put, List.setIfInBounds_toArray, List.set_cons_zero, List.set_cons_succ]
            obtain ⟨e0, e1, e2, e3⟩ := R14.cells10
            refine oneL (i := 11) (o := { dst := none, op := Go.Op.store 41 (Go.Operand.tmp 13) (Go.Operand.tmp 65), type := 0, pos := "outright.go:115", after := #[{ on := 10, ground := Go.Ground.data }, { on := 9, ground := Go.Ground.data }, { on := 8, ground := Go.Ground.chain }, { on := 0, ground := Go.Ground.phase }, { on := 1, ground := Go.Ground.phase }, { on := 2, ground := Go.Ground.phase }, { on := 3, ground := Go.Ground.phase }, { on := 4, ground := Go.Ground.phase }, { on := 5, ground := Go.Ground.phase }, { on := 6, ground := Go.Ground.phase }, { on := 7, ground := Go.Ground.phase }, { on := 8, ground := Go.Ground.phase }, { on := 9, ground := Go.Ground.phase }, { on := 10, ground := Go.Ground.phase }], guard := none }) rfl (by kernel_rfl) rfl ?_
            refine wp_by_skip (w' := (X14.setCell ⟨g14, 0, none⟩ (.slice pa pl pc)).setCell ⟨g14, 1, none⟩ (.slice a13 (rl + 1) c13)) (by go_simp) ?_
            refine ⟨fun h => absurd rfl h, ?_⟩
            refine doneL (by kernel_rfl) (Calm.normal ⟨rfl, (.slice (some ⟨g1, 0, none⟩) 0 0), (.slice a12 rl c12), (.slice (some ⟨g11, 0, none⟩) 1 1), a13, c13, g14, ?_, R14.fin⟩) _
            simp only [Act.put, List.setIfInBounds_toArray, List.set_cons_zero, List.set_cons_succ]
          ·
            refine R12.doten (by go_simp) ?_
            intro g15 X15 R15
            refine ⟨fun _ => R15.below, ?_⟩
            simp only [Act.put, List.setIfInBounds_toArray, List.set_cons_zero, List.set_cons_succ]
            refine oneL (i := 8) (o := { dst := some 64, op := Go.Op.call { callee := Go.Callee.builtin Go.Builtin.append, args := #[Go.Operand.tmp 61, Go.Operand.tmp 63], argTypes := #[39, 39] }, type := 39, pos := "outright.go:115", after := #[{ on := 5, ground := Go.Ground.data }, { on := 7, ground := Go.Ground.data }, { on := 5, ground := Go.Ground.chain }], guard := none }) rfl (by kernel_rfl) rfl ?_
            refine R15.doeight rfl (.tmp 61) (.tmp 63) rfl rfl rfl (by rfl) rfl (rl + 1) HLEN.out (by omega) ?_
            intro a16 c16 X16 R16
            refine ⟨fun _ => R16.below, ?_⟩
            simp only [Act.put, List.setIfInBounds_toArray, List.set_cons_zero, List.set_cons_succ]
            refine takeL (i := 9) (oi := { dst := some 65, op := Go.Op.build 41 #[(0, Go.Operand.tmp 57), (1, Go.Operand.tmp 64)], type := 41, pos := "outright.go:115", after := #[{ on := 1, ground := Go.Ground.data }, { on := 8, ground := Go.Ground.data }], guard := none }) (v := .agg #[.slice pa pl pc, .slice a16 (rl + 1) c16]) [11] rfl (by kernel_rfl) (by kernel_rfl) (by kernel_rfl) (by kernel_rfl) (fun _ _ _ h => calm_panic h) rfl ?_ R16.below ?_
            · intro W hW
              go_simp
            simp only [Act.put, List.setIfInBounds_toArray, List.set_cons_zero, List.set_cons_succ]
            obtain ⟨e0, e1, e2, e3⟩ := R16.cells10
            refine oneL (i := 11) (o := { dst := none, op := Go.Op.store 41 (Go.Operand.tmp 13) (Go.Operand.tmp 65), type := 0, pos := "outright.go:115", after := #[{ on := 10, ground := Go.Ground.data }, { on := 9, ground := Go.Ground.data }, { on := 8, ground := Go.Ground.chain }, { on := 0, ground := Go.Ground.phase }, { on := 1, ground := Go.Ground.phase }, { on := 2, ground := Go.Ground.phase }, { on := 3, ground := Go.Ground.phase }, { on := 4, ground := Go.Ground.phase }, { on := 5, ground := Go.Ground.phase }, { on := 6, ground := Go.Ground.phase }, { on := 7, ground := Go.Ground.phase }, { on := 8, ground := Go.Ground.phase }, { on := 9, ground := Go.Ground.phase }, { on := 10, ground := Go.Ground.phase }], guard := none }) rfl (by kernel_rfl) rfl ?_
            refine wp_by_skip (w' := (X16.setCell ⟨g15, 0, none⟩ (.slice pa pl pc)).setCell ⟨g15, 1, none⟩ (.slice a16 (rl + 1) c16)) (by go_simp) ?_
            refine ⟨fun h => absurd rfl h, ?_⟩
            refine doneL (by kernel_rfl) (Calm.normal ⟨rfl, (.slice (some ⟨g1, 0, none⟩) 0 0), (.slice a12 rl c12), (.slice (some ⟨g11, 0, none⟩) 1 1), a16, c16, g15, ?_, R16.fin⟩) _
            simp only [Act.put, List.setIfInBounds_toArray, List.set_cons_zero, List.set_cons_succ]
        ·
          refine R11.doten (by go_simp) ?_
          intro g17 X17 R17
          refine ⟨fun _ => R17.below, ?_⟩
          simp only [Act.put, List.setIfInBounds_toArray, List.set_cons_zero, List.set_cons_succ]
          refine oneL (i := 5) (o := { dst := some 61, op := Go.Op.call { callee := Go.Callee.builtin Go.Builtin.append, args := #[Go.Operand.tmp 58, Go.Operand.tmp 60], argTypes := #[39, 39] }, type := 39, pos := "outright.go:115", after := #[{ on := 2, ground := Go.Ground.data }, { on := 4, ground := Go.Ground.data }], guard := none }) rfl (by kernel_rfl) rfl ?_
          refine R17.dofive rfl (.tmp 58) (.tmp 60) rfl rfl ra rl rc R rfl HN.out (HR.out X17 (C3.out.trans (R17.below.mono HS3.out))) rfl (by omega) ?_
          intro a18 c18 X18 R18
          refine ⟨fun _ => R18.below, ?_⟩
          simp only [Act.put, List.setIfInBounds_toArray, List.set_cons_zero, List.set_cons_succ]
          refine oneL (i := 8) (o := { dst := some 64, op := Go.Op.call { callee := Go.Callee.builtin Go.Builtin.append, args := #[Go.Operand.tmp 61, Go.Operand.tmp 63], argTypes := #[39, 39] }, type := 39, pos := "outright.go:115", after := #[{ on := 5, ground := Go.Ground.data }, { on := 7, ground := Go.Ground.data }, { on := 5, ground := Go.Ground.chain }], guard := none }) rfl (by kernel_rfl) rfl ?_
          refine R18.doeight rfl (.tmp 61) (.tmp 63) rfl rfl rfl (by rfl) rfl (rl + 1) HLEN.out (by omega) ?_
          intro a19 c19 X19 R19
          refine ⟨fun _ => R19.below, ?_⟩
          simp only [Act.put, List.setIfInBounds_toArray, List.set_cons_zero, List.set_cons_succ]
          refine takeL (i := 9) (oi := { dst := some 65, op := Go.Op.build 41 #[(0, Go.Operand.tmp 57), (1, Go.Operand.tmp 64)], type := 41, pos := "outright.go:115", after := #[{ on := 1, ground := Go.Ground.data }, { on := 8, ground := Go.Ground.data }], guard := none }) (v := .agg #[.slice pa pl pc, .slice a19 (rl + 1) c19]) [11] rfl (by kernel_rfl) (by kernel_rfl) (by kernel_rfl) (by kernel_rfl) (fun _ _ _ h => calm_panic h) rfl ?_ R19.below ?_
          · intro W hW
            go_simp
          simp only [Act.put, List.setIfInBounds_toArray, List.set_cons_zero, List.set_cons_succ]
          obtain ⟨e0, e1, e2, e3⟩ := R19.cells10
          refine oneL (i := 11) (o := { dst := none, op := Go.Op.store 41 (Go.Operand.tmp 13) (Go.Operand.tmp 65), type := 0, pos := "outright.go:115", after := #[{ on := 10, ground := Go.Ground.data }, { on := 9, ground := Go.Ground.data }, { on := 8, ground := Go.Ground.chain }, { on := 0, ground := Go.Ground.phase }, { on := 1, ground := Go.Ground.phase }, { on := 2, ground := Go.Ground.phase }, { on := 3, ground := Go.Ground.phase }, { on := 4, ground := Go.Ground.phase }, { on := 5, ground := Go.Ground.phase }, { on := 6, ground := Go.Ground.phase }, { on := 7, ground := Go.Ground.phase }, { on := 8, ground := Go.Ground.phase }, { on := 9, ground := Go.Ground.phase }, { on := 10, ground := Go.Ground.phase }], guard := none }) rfl (by kernel_rfl) rfl ?_
          refine wp_by_skip (w' := (X19.setCell ⟨g17, 0, none⟩ (.slice pa pl pc)).setCell ⟨g17, 1, none⟩ (.slice a19 (rl + 1) c19)) (by go_simp) ?_
          refine ⟨fun h => absurd rfl h, ?_⟩
          refine doneL (by kernel_rfl) (Calm.normal ⟨rfl, (.slice (some ⟨g1, 0, none⟩) 0 0), (.slice a18 rl c18), (.slice (some ⟨g11, 0, none⟩) 1 1), a19, c19, g17, ?_, R19.fin⟩) _
          simp only [Act.put, List.setIfInBounds_toArray, List.set_cons_zero, List.set_cons_succ]
      ·
        refine R1.doten (by go_simp) ?_
        intro g20 X20 R20
        refine ⟨fun _ => R20.below, ?_⟩
        simp only [Act.put, List.setIfInBounds_toArray, List.set_cons_zero, List.set_cons_succ]
        refine twoL (i := 5) (j := 7) (o := { dst := some 61, op := Go.Op.call { callee := Go.Callee.builtin Go.Builtin.append, args := #[Go.Operand.tmp 58, Go.Operand.tmp 60], argTypes := #[39, 39] }, type := 39, pos := "outright.go:115", after := #[{ on := 2, ground := Go.Ground.data }, { on := 4, ground := Go.Ground.data }], guard := none }) (o' := { dst := some 63, op := Go.Op.buildSlice 39 1 #[(0, Go.Operand.tmp 62)], type := 39, pos := "outright.go:115", after := #[{ on := 6, ground := Go.Ground.data }], guard := none }) rfl rfl (by kernel_rfl) rfl rfl ?_ ?_
        ·
          refine R20.dofive rfl (.tmp 58) (.tmp 60) rfl rfl ra rl rc R rfl HN.out (HR.out X20 (C3.out.trans (R20.below.mono HS3.out))) rfl (by omega) ?_
          intro a21 c21 X21 R21
          refine ⟨fun _ => R21.below, ?_⟩
          simp only [Act.put, List.setIfInBounds_toArray, List.set_cons_zero, List.set_cons_succ]
          refine oneL (i := 7) (o := { dst := some 63, op := Go.Op.buildSlice 39 1 #[(0, Go.Operand.tmp 62)], type := 39, pos := "outright.go:115", after := #[{ on := 6, ground := Go.Ground.data }], guard := none }) rfl (by kernel_rfl) rfl ?_
          refine R21.doseven (by go_simp) ?_
          intro g22 X22 R22
          refine ⟨fun _ => R22.below, ?_⟩
          simp only [Act.put, List.setIfInBounds_toArray, List.set_cons_zero, List.set_cons_succ]
          refine oneL (i := 8) (o := { dst := some 64, op := Go.Op.call { callee := Go.Callee.builtin Go.Builtin.append, args := #[Go.Operand.tmp 61, Go.Operand.tmp 63], argTypes := #[39, 39] }, type := 39, pos := "outright.go:115", after := #[{ on := 5, ground := Go.Ground.data }, { on := 7, ground := Go.Ground.data }, { on := 5, ground := Go.Ground.chain }], guard := none }) rfl (by kernel_rfl) rfl ?_
          refine R22.doeight rfl (.tmp 61) (.tmp 63) rfl rfl rfl (by rfl) rfl (rl + 1) HLEN.out (by omega) ?_
          intro a23 c23 X23 R23
          refine ⟨fun _ => R23.below, ?_⟩
          simp only [Act.put, List.setIfInBounds_toArray, List.set_cons_zero, List.set_cons_succ]
          refine takeL (i := 9) (oi := { dst := some 65, op := Go.Op.build 41 #[(0, Go.Operand.tmp 57), (1, Go.Operand.tmp 64)], type := 41, pos := "outright.go:115", after := #[{ on := 1, ground := Go.Ground.data }, { on := 8, ground := Go.Ground.data }], guard := none }) (v := .agg #[.slice pa pl pc, .slice a23 (rl + 1) c23]) [11] rfl (by kernel_rfl) (by kernel_rfl) (by kernel_rfl) (by kernel_rfl) (fun _ _ _ h => calm_panic h) rfl ?_ R23.below ?_
          · intro W hW
            go_simp
          simp only [Act.put, List.setIfInBounds_toArray, List.set_cons_zero, List.set_cons_succ]
          obtain ⟨e0, e1, e2, e3⟩ := R23.cells10
          refine oneL (i := 11) (o := { dst := none, op := Go.Op.store 41 (Go.Operand.tmp 13) (Go.Operand.tmp 65), type := 0, pos := "outright.go:115", after := #[{ on := 10, ground := Go.Ground.data }, { on := 9, ground := Go.Ground.data }, { on := 8, ground := Go.Ground.chain }, { on := 0, ground := Go.Ground.phase }, { on := 1, ground := Go.Ground.phase }, { on := 2, ground := Go.Ground.phase }, { on := 3, ground := Go.Ground.phase }, { on := 4, ground := Go.Ground.phase }, { on := 5, ground := Go.Ground.phase }, { on := 6, ground := Go.Ground.phase }, { on := 7, ground := Go.Ground.phase }, { on := 8, ground := Go.Ground.phase }, { on := 9, ground := Go.Ground.phase }, { on := 10, ground := Go.Ground.phase }], guard := none }) rfl (by kernel_rfl) rfl ?_
          refine wp_by_skip (w' := (X23.setCell ⟨g20, 0, none⟩ (.slice pa pl pc)).setCell ⟨g20, 1, none⟩ (.slice a23 (rl + 1) c23)) (by go_simp) ?_
          refine ⟨fun h => absurd rfl h, ?_⟩
          refine doneL (by kernel_rfl) (Calm.normal ⟨rfl, (.slice (some ⟨g1, 0, none⟩) 0 0), (.slice a21 rl c21), (.slice (some ⟨g22, 0, none⟩) 1 1), a23, c23, g20, ?_, R23.fin⟩) _
          simp only [Act.put, List.setIfInBounds_toArray, List.set_cons_zero, List.set_cons_succ]
        ·
          refine R20.doseven (by go_simp) ?_
          intro g24 X24 R24
          refine ⟨fun _ => R24.below, ?_⟩
          simp only [Act.put, List.setIfInBounds_toArray, List.set_cons_zero, List.set_cons_succ]
          refine oneL (i := 5) (o := { dst := some 61, op := Go.Op.call { callee := Go.Callee.builtin Go.Builtin.append, args := #[Go.Operand.tmp 58, Go.Operand.tmp 60], argTypes := #[39, 39] }, type := 39, pos := "outright.go:115", after := #[{ on := 2, ground := Go.Ground.data }, { on := 4, ground := Go.Ground.data }], guard := none }) rfl (by kernel_rfl) rfl ?_
          refine R24.dofive rfl (.tmp 58) (.tmp 60) rfl rfl ra rl rc R rfl HN.out (HR.out X24 (C3.out.trans (R24.below.mono HS3.out))) rfl (by omega) ?_
          intro a25 c25 X25 R25
          refine ⟨fun _ => R25.below, ?_⟩
          simp only [Act.put, List.setIfInBounds_toArray, List.set_cons_zero, List.set_cons_succ]
          refine oneL (i := 8) (o := { dst := some 64, op := Go.Op.call { callee := Go.Callee.builtin Go.Builtin.append, args := #[Go.Operand.tmp 61, Go.Operand.tmp 63], argTypes := #[39, 39] }, type := 39, pos := "outright.go:115", after := #[{ on := 5, ground := Go.Ground.data }, { on := 7, ground := Go.Ground.data }, { on := 5, ground := Go.Ground.chain }], guard := none }) rfl (by kernel_rfl) rfl ?_
          refine R25.doeight rfl (.tmp 61) (.tmp 63) rfl rfl rfl (by rfl) rfl (rl + 1) HLEN.out (by omega) ?_
          intro a26 c26 X26 R26
          refine ⟨fun _ => R26.below, ?_⟩
          simp only [Act.put, List.setIfInBounds_toArray, List.set_cons_zero, List.set_cons_succ]
          refine takeL (i := 9) (oi := { dst := some 65, op := Go.Op.build 41 #[(0, Go.Operand.tmp 57), (1, Go.Operand.tmp 64)], type := 41, pos := "outright.go:115", after := #[{ on := 1, ground := Go.Ground.data }, { on := 8, ground := Go.Ground.data }], guard := none }) (v := .agg #[.slice pa pl pc, .slice a26 (rl + 1) c26]) [11] rfl (by kernel_rfl) (by kernel_rfl) (by kernel_rfl) (by kernel_rfl) (fun _ _ _ h => calm_panic h) rfl ?_ R26.below ?_
          · intro W hW
            go_simp
          simp only [Act.put, List.setIfInBounds_toArray, List.set_cons_zero, List.set_cons_succ]
          obtain ⟨e0, e1, e2, e3⟩ := R26.cells10
          refine oneL (i := 11) (o := { dst := none, op := Go.Op.store 41 (Go.Operand.tmp 13) (Go.Operand.tmp 65), type := 0, pos := "outright.go:115", after := #[{ on := 10, ground := Go.Ground.data }, { on := 9, ground := Go.Ground.data }, { on := 8, ground := Go.Ground.chain }, { on := 0, ground := Go.Ground.phase }, { on := 1, ground := Go.Ground.phase }, { on := 2, ground := Go.Ground.phase }, { on := 3, ground := Go.Ground.phase }, { on := 4, ground := Go.Ground.phase }, { on := 5, ground := Go.Ground.phase }, { on := 6, ground := Go.Ground.phase }, { on := 7, ground := Go.Ground.phase }, { on := 8, ground := Go.Ground.phase }, { on := 9, ground := Go.Ground.phase }, { on := 10, ground := Go.Ground.phase }], guard := none }) rfl (by kernel_rfl) rfl ?_
          refine wp_by_skip (w' := (X26.setCell ⟨g20, 0, none⟩ (.slice pa pl pc)).setCell ⟨g20, 1, none⟩ (.slice a26 (rl + 1) c26)) (by go_simp) ?_
          refine ⟨fun h => absurd rfl h, ?_⟩
          refine doneL (by kernel_rfl) (Calm.normal ⟨rfl, (.slice (some ⟨g1, 0, none⟩) 0 0), (.slice a25 rl c25), (.slice (some ⟨g24, 0, none⟩) 1 1), a26, c26, g20, ?_, R26.fin⟩) _
          simp only [Act.put, List.setIfInBounds_toArray, List.set_cons_zero, List.set_cons_succ]
    ·
      refine R0.doseven (by go_simp) ?_
      intro g27 X27 R27
      refine ⟨fun _ => R27.below, ?_⟩
      simp only [Act.put, List.setIfInBounds_toArray, List.set_cons_zero, List.set_cons_succ]
      refine twoL (i := 2) (j := 10) (o := { dst := some 58, op := Go.Op.buildSlice 39 0 #[], type := 39, pos := "outright.go:115", after := #[], guard := none }) (o' := { dst := some 13, op := Go.Op.alloc 41, type := 0, pos := "outright.go:115", after := #[], guard := none }) rfl rfl (by kernel_rfl) rfl rfl ?_ ?_
      ·
        refine R27.dotwo (by go_simp) ?_
        intro g28 X28 R28
        refine ⟨fun _ => R28.below, ?_⟩
        simp only [Act.put, List.setIfInBounds_toArray, List.set_cons_zero, List.set_cons_succ]
        refine twoL (i := 5) (j := 10) (o := { dst := some 61, op := Go.Op.call { callee := Go.Callee.builtin Go.Builtin.append, args := #[Go.Operand.tmp 58, Go.Operand.tmp 60], argTypes := #[39, 39] }, type := 39, pos := "outright.go:115", after := #[{ on := 2, ground := Go.Ground.data }, { on := 4, ground := Go.Ground.data }], guard := none }) (o' := { dst := some 13, op := Go.Op.alloc 41, type := 0, pos := "outright.go:115", after := #[], guard := none }) rfl rfl (by kernel_rfl) rfl rfl ?_ ?_
        ·
          refine R28.dofive rfl (.tmp 58) (.tmp 60) rfl rfl ra rl rc R rfl HN.out (HR.out X28 (C3.out.trans (R28.below.mono HS3.out))) rfl (by omega) ?_
          intro a29 c29 X29 R29
          refine ⟨fun _ => R29.below, ?_⟩
          simp only [Act.put, List.setIfInBounds_toArray, List.set_cons_zero, List.set_cons_succ]
          refine twoL (i := 8) (j := 10) (o := { dst := some 64, op := Go.Op.call { callee := Go.Callee.builtin Go.Builtin.append, args := #[Go.Operand.tmp 61, Go.Operand.tmp 63], argTypes := #[39, 39] }, type := 39, pos := "outright.go:115", after := #[{ on := 5, ground := Go.Ground.data }, { on := 7, ground := Go.Ground.data }, { on := 5, ground := Go.Ground.chain }], guard := none }) (o' := { dst := some 13, op := Go.Op.alloc 41, type := 0, pos := "outright.go:115", after := #[], guard := none }) rfl rfl (by kernel_rfl) rfl rfl ?_ ?_
          ·
            refine R29.doeight rfl (.tmp 61) (.tmp 63) rfl rfl rfl (by rfl) rfl (rl + 1) HLEN.out (by omega) ?_
            intro a30 c30 X30 R30
            refine ⟨fun _ => R30.below, ?_⟩
            simp only [Act.put, List.setIfInBounds_toArray, List.set_cons_zero, List.set_cons_succ]
            refine takeL (i := 9) (oi := { dst := some 65, op := Go.Op.build 41 #[(0, Go.Operand.tmp 57), (1, Go.Operand.tmp 64)], type := 41, pos := "outright.go:115", after := #[{ on := 1, ground := Go.Ground.data }, { on := 8, ground := Go.Ground.data }], guard := none }) (v := .agg #[.slice pa pl pc, .slice a30 (rl + 1) c30]) [11] rfl (by kernel_rfl) (by kernel_rfl) (by kernel_rfl) (by kernel_rfl) (fun _ _ _ h => calm_panic h) rfl ?_ R30.below ?_
            · intro W hW
              go_simp
            simp only [Act.put, List.setIfInBounds_toArray, List.set_cons_zero, List.set_cons_succ]
            refine oneL (i := 10) (o := { dst := some 13, op := Go.Op.alloc 41, type := 0, pos := "outright.go:115", after := #[], guard := none }) rfl (by kernel_rfl) rfl ?_
            refine R30.doten (by go_simp) ?_
            intro g31 X31 R31
            refine ⟨fun _ => R31.below, ?_⟩
            simp only [Act.put, List.setIfInBounds_toArray, List.set_cons_zero, List.set_cons_succ]
            obtain ⟨e0, e1, e2, e3⟩ := R31.cells10
            refine oneL (i := 11) (o := { dst := none, op := Go.Op.store 41 (Go.Operand.tmp 13) (Go.Operand.tmp 65), type := 0, pos := "outright.go:115", after := #[{ on := 10, ground := Go.Ground.data }, { on := 9, ground := Go.Ground.data }, { on := 8, ground := Go.Ground.chain }, { on := 0, ground := Go.Ground.phase }, { on := 1, ground := Go.Ground.phase }, { on := 2, ground := Go.Ground.phase }, { on := 3, ground := Go.Ground.phase }, { on := 4, ground := Go.Ground.phase }, { on := 5, ground := Go.Ground.phase }, { on := 6, ground := Go.Ground.phase }, { on := 7, ground := Go.Ground.phase }, { on := 8, ground := Go.Ground.phase }, { on := 9, ground := Go.Ground.phase }, { on := 10, ground := Go.Ground.phase }], guard := none }) rfl (by kernel_rfl) rfl ?_
            refine wp_by_skip (w' := (X31.setCell ⟨g31, 0, none⟩ (.slice pa pl pc)).setCell ⟨g31, 1, none⟩ (.slice a30 (rl + 1) c30)) (by go_simp) ?_
            refine ⟨fun h => absurd rfl h, ?_⟩
            refine doneL (by kernel_rfl) (Calm.normal ⟨rfl, (.slice (some ⟨g28, 0, none⟩) 0 0), (.slice a29 rl c29), (.slice (some ⟨g27, 0, none⟩) 1 1), a30, c30, g31, ?_, R31.fin⟩) _
            simp only [Act.put, List.setIfInBounds_toArray, List.set_cons_zero, List.set_cons_succ]
          ·
            refine R29.doten (by go_simp) ?_
            intro g32 X32 R32
            refine ⟨fun _ => R32.below, ?_⟩
            simp only [Act.put, List.setIfInBounds_toArray, List.set_cons_zero, List.set_cons_succ]
            refine oneL (i := 8) (o := { dst := some 64, op := Go.Op.call { callee := Go.Callee.builtin Go.Builtin.append, args := #[Go.Operand.tmp 61, Go.Operand.tmp 63], argTypes := #[39, 39] }, type := 39, pos := "outright.go:115", after := #[{ on := 5, ground := Go.Ground.data }, { on := 7, ground := Go.Ground.data }, { on := 5, ground := Go.Ground.chain }], guard := none }) rfl (by kernel_rfl) rfl ?_
            refine R32.doeight rfl (.tmp 61) (.tmp 63) rfl rfl rfl (by rfl) rfl (rl + 1) HLEN.out (by omega) ?_
            intro a33 c33 X33 R33
            refine ⟨fun _ => R33.below, ?_⟩
            simp only [Act.put, List.setIfInBounds_toArray, List.set_cons_zero, List.set_cons_succ]
            refine takeL (i := 9) (oi := { dst := some 65, op := Go.Op.build 41 #[(0, Go.Operand.tmp 57), (1, Go.Operand.tmp 64)], type := 41, pos := "outright.go:115", after := #[{ on := 1, ground := Go.Ground.data }, { on := 8, ground := Go.Ground.data }], guard := none }) (v := .agg #[.slice pa pl pc, .slice a33 (rl + 1) c33]) [11] rfl (by kernel_rfl) (by kernel_rfl) (by kernel_rfl) (by kernel_rfl) (fun _ _ _ h => calm_panic h) rfl ?_ R33.below ?_
            · intro W hW
              go_simp
            simp only [Act.put, List.setIfInBounds_toArray, List.set_cons_zero, List.set_cons_succ]
            obtain ⟨e0, e1, e2, e3⟩ := R33.cells10
            refine oneL (i := 11) (o := { dst := none, op := Go.Op.store 41 (Go.Operand.tmp 13) (Go.Operand.tmp 65), type := 0, pos := "outright.go:115", after := #[{ on := 10, ground := Go.Ground.data }, { on := 9, ground := Go.Ground.data }, { on := 8, ground := Go.Ground.chain }, { on := 0, ground := Go.Ground.phase }, { on := 1, ground := Go.Ground.phase }, { on := 2, ground := Go.Ground.phase }, { on := 3, ground := Go.Ground.phase }, { on := 4, ground := Go.Ground.phase }, { on := 5, ground := Go.Ground.phase }, { on := 6, ground := Go.Ground.phase }, { on := 7, ground := Go.Ground.phase }, { on := 8, ground := Go.Ground.phase }, { on := 9, ground := Go.Ground.phase }, { on := 10, ground := Go.Ground.phase }], guard := none }) rfl (by kernel_rfl) rfl ?_
            refine wp_by_skip (w' := (X33.setCell ⟨g32, 0, none⟩ (.slice pa pl pc)).setCell ⟨g32, 1, none⟩ (.slice a33 (rl + 1) c33)) (by go_simp) ?_
            refine ⟨fun h => absurd rfl h, ?_⟩
            refine doneL (by kernel_rfl) (Calm.normal ⟨rfl, (.slice (some ⟨g28, 0, none⟩) 0 0), (.slice a29 rl c29), (.slice (some ⟨g27, 0, none⟩) 1 1), a33, c33, g32, ?_, R33.fin⟩) _
            simp only [Act.put, List.setIfInBounds_toArray, List.set_cons_zero, List.set_cons_succ]
        ·
          refine R28.doten (by go_simp) ?_
          intro g34 X34 R34
          refine ⟨fun _ => R34.below, ?_⟩
          simp only [Act.put, List.setIfInBounds_toArray, List.set_cons_zero, List.set_cons_succ]
          refine oneL (i := 5) (o := { dst := some 61, op := Go.Op.call { callee := Go.Callee.builtin Go.Builtin.append, args := #[Go.Operand.tmp 58, Go.Operand.tmp 60], argTypes := #[39, 39] }, type := 39, pos := "outright.go:115", after := #[{ on := 2, ground := Go.Ground.data }, { on := 4, ground := Go.Ground.data }], guard := none }) rfl (by kernel_rfl) rfl ?_
          refine R34.dofive rfl (.tmp 58) (.tmp 60) rfl rfl ra rl rc R rfl HN.out (HR.out X34 (C3.out.trans (R34.below.mono HS3.out))) rfl (by omega) ?_
          intro a35 c35 X35 R35
          refine ⟨fun _ => R35.below, ?_⟩
          simp only [Act.put, List.setIfInBounds_toArray, List.set_cons_zero, List.set_cons_succ]
          refine oneL (i := 8) (o := { dst := some 64, op := Go.Op.call { callee := Go.Callee.builtin Go.Builtin.append, args := #[Go.Operand.tmp 61, Go.Operand.tmp 63], argTypes := #[39, 39] }, type := 39, pos := "outright.go:115", after := #[{ on := 5, ground := Go.Ground.data }, { on := 7, ground := Go.Ground.data }, { on := 5, ground := Go.Ground.chain }], guard := none }) rfl (by kernel_rfl) rfl ?_
          refine R35.doeight rfl (.tmp 61) (.tmp 63) rfl rfl rfl (by rfl) rfl (rl + 1) HLEN.out (by omega) ?_
          intro a36 c36 X36 R36
          refine ⟨fun _ => R36.below, ?_⟩
          simp only [Act.put, List.setIfInBounds_toArray, List.set_cons_zero, List.set_cons_succ]
          refine takeL (i := 9) (oi := { dst := some 65, op := Go.Op.build 41 #[(0, Go.Operand.tmp 57), (1, Go.Operand.tmp 64)], type := 41, pos := "outright.go:115", after := #[{ on := 1, ground := Go.Ground.data }, { on := 8, ground := Go.Ground.data }], guard := none }) (v := .agg #[.slice pa pl pc, .slice a36 (rl + 1) c36]) [11] rfl (by kernel_rfl) (by kernel_rfl) (by kernel_rfl) (by kernel_rfl) (fun _ _ _ h => calm_panic h) rfl ?_ R36.below ?_
          · intro W hW
            go_simp
          simp only [Act.put, List.setIfInBounds_toArray, List.set_cons_zero, List.set_cons_succ]
          obtain ⟨e0, e1, e2, e3⟩ := R36.cells10
          refine oneL (i := 11) (o := { dst := none, op := Go.Op.store 41 (Go.Operand.tmp 13) (Go.Operand.tmp 65), type := 0, pos := "outright.go:115", after := #[{ on := 10, ground := Go.Ground.data }, { on := 9, ground := Go.Ground.data }, { on := 8, ground := Go.Ground.chain }, { on := 0, ground := Go.Ground.phase }, { on := 1, ground := Go.Ground.phase }, { on := 2, ground := Go.Ground.phase }, { on := 3, ground := Go.Ground.phase }, { on := 4, ground := Go.Ground.phase }, { on := 5, ground := Go.Ground.phase }, { on := 6, ground := Go.Ground.phase }, { on := 7, ground := Go.Ground.phase }, { on := 8, ground := Go.Ground.phase }, { on := 9, ground := Go.Ground.phase }, { on := 10, ground := Go.Ground.phase }], guard := none }) rfl (by kernel_rfl) rfl ?_
          refine wp_by_skip (w' := (X36.setCell ⟨g34, 0, none⟩ (.slice pa pl pc)).setCell ⟨g34, 1, none⟩ (.slice a36 (rl + 1) c36)) (by go_simp) ?_
          refine ⟨fun h => absurd rfl h, ?_⟩
          refine doneL (by kernel_rfl) (Calm.normal ⟨rfl, (.slice (some ⟨g28, 0, none⟩) 0 0), (.slice a35 rl c35), (.slice (some ⟨g27, 0, none⟩) 1 1), a36, c36, g34, ?_, R36.fin⟩) _
          simp only [Act.put, List.setIfInBounds_toArray, List.set_cons_zero, List.set_cons_succ]
      ·
        refine R27.doten (by go_simp) ?_
        intro g37 X37 R37
        refine ⟨fun _ => R37.below, ?_⟩
        simp only [Act.put, List.setIfInBounds_toArray, List.set_cons_zero, List.set_cons_succ]
        refine oneL (i := 2) (o := { dst := some 58, op := Go.Op.buildSlice 39 0 #[], type := 39, pos := "outright.go:115", after := #[], guard := none }) rfl (by kernel_rfl) rfl ?_
        refine R37.dotwo (by go_simp) ?_
        intro g38 X38 R38
        refine ⟨fun _ => R38.below, ?_⟩
        simp only [Act.put, List.setIfInBounds_toArray, List.set_cons_zero, List.set_cons_succ]
        refine oneL (i := 5) (o := { dst := some 61, op := Go.Op.call { callee := Go.Callee.builtin Go.Builtin.append, args := #[Go.Operand.tmp 58, Go.Operand.tmp 60], argTypes := #[39, 39] }, type := 39, pos := "outright.go:115", after := #[{ on := 2, ground := Go.Ground.data }, { on := 4, ground := Go.Ground.data }], guard := none }) rfl (by kernel_rfl) rfl ?_
        refine R38.dofive rfl (.tmp 58) (.tmp 60) rfl rfl ra rl rc R rfl HN.out (HR.out X38 (C3.out.trans (R38.below.mono HS3.out))) rfl (by omega) ?_
        intro a39 c39 X39 R39
        refine ⟨fun _ => R39.below, ?_⟩
        simp only [Act.put, List.setIfInBounds_toArray, List.set_cons_zero, List.set_cons_succ]
        refine oneL (i := 8) (o := { dst := some 64, op := Go.Op.call { callee := Go.Callee.builtin Go.Builtin.append, args := #[Go.Operand.tmp 61, Go.Operand.tmp 63], argTypes := #[39, 39] }, type := 39, pos := "outright.go:115", after := #[{ on := 5, ground := Go.Ground.data }, { on := 7, ground := Go.Ground.data }, { on := 5, ground := Go.Ground.chain }], guard := none }) rfl (by kernel_rfl) rfl ?_
        refine R39.doeight rfl (.tmp 61) (.tmp 63) rfl rfl rfl (by rfl) rfl (rl + 1) HLEN.out (by omega) ?_
        intro a40 c40 X40 R40
        refine ⟨fun _ => R40.below, ?_⟩
        simp only [Act.put, List.setIfInBounds_toArray, List.set_cons_zero, List.set_cons_succ]
        refine takeL (i := 9) (oi := { dst := some 65, op := Go.Op.build 41 #[(0, Go.Operand.tmp 57), (1, Go.Operand.tmp 64)], type := 41, pos := "outright.go:115", after := #[{ on := 1, ground := Go.Ground.data }, { on := 8, ground := Go.Ground.data }], guard := none }) (v := .agg #[.slice pa pl pc, .slice a40 (rl + 1) c40]) [11] rfl (by kernel_rfl) (by kernel_rfl) (by kernel_rfl) (by kernel_rfl) (fun _ _ _ h => calm_panic h) rfl ?_ R40.below ?_
        · intro W hW
          go_simp
        simp only [Act.put, List.setIfInBounds_toArray, List.set_cons_zero, List.set_cons_succ]
        obtain ⟨e0, e1, e2, e3⟩ := R40.cells10
        refine oneL (i := 11) (o := { dst := none, op := Go.Op.store 41 (Go.Operand.tmp 13) (Go.Operand.tmp 65), type := 0, pos := "outright.go:115", after := #[{ on := 10, ground := Go.Ground.data }, { on := 9, ground := Go.Ground.data }, { on := 8, ground := Go.Ground.chain }, { on := 0, ground := Go.Ground.phase }, { on := 1, ground := Go.Ground.phase }, { on := 2, ground := Go.Ground.phase }, { on := 3, ground := Go.Ground.phase }, { on := 4, ground := Go.Ground.phase }, { on := 5, ground := Go.Ground.phase }, { on := 6, ground := Go.Ground.phase }, { on := 7, ground := Go.Ground.phase }, { on := 8, ground := Go.Ground.phase }, { on := 9, ground := Go.Ground.phase }, { on := 10, ground := Go.Ground.phase }], guard := none }) rfl (by kernel_rfl) rfl ?_
        refine wp_by_skip (w' := (X40.setCell ⟨g37, 0, none⟩ (.slice pa pl pc)).setCell ⟨g37, 1, none⟩ (.slice a40 (rl + 1) c40)) (by go_simp) ?_
        refine ⟨fun h => absurd rfl h, ?_⟩
        refine doneL (by kernel_rfl) (Calm.normal ⟨rfl, (.slice (some ⟨g38, 0, none⟩) 0 0), (.slice a39 rl c39), (.slice (some ⟨g27, 0, none⟩) 1 1), a40, c40, g37, ?_, R40.fin⟩) _
        simp only [Act.put, List.setIfInBounds_toArray, List.set_cons_zero, List.set_cons_succ]
    ·
      refine R0.doten (by go_simp) ?_
      intro g41 X41 R41
      refine ⟨fun _ => R41.below, ?_⟩
      simp only [Act.put, List.setIfInBounds_toArray, List.set_cons_zero, List.set_cons_succ]
      refine twoL (i := 2) (j := 7) (o := { dst := some 58, op := Go.Op.buildSlice 39 0 #[], type := 39, pos := "outright.go:115", after := #[], guard := none }) (o' := { dst := some 63, op := Go.Op.buildSlice 39 1 #[(0, Go.Operand.tmp 62)], type := 39, pos := "outright.go:115", after := #[{ on := 6, ground := Go.Ground.data }], guard := none }) rfl rfl (by kernel_rfl) rfl rfl ?_ ?_
      ·
        refine R41.dotwo (by go_simp) ?_
        intro g42 X42 R42
        refine ⟨fun _ => R42.below, ?_⟩
        simp only [Act.put, List.setIfInBounds_toArray, List.set_cons_zero, List.set_cons_succ]
        refine twoL (i := 5) (j := 7) (o := { dst := some 61, op := Go.Op.call { callee := Go.Callee.builtin Go.Builtin.append, args := #[Go.Operand.tmp 58, Go.Operand.tmp 60], argTypes := #[39, 39] }, type := 39, pos := "outright.go:115", after := #[{ on := 2, ground := Go.Ground.data }, { on := 4, ground := Go.Ground.data }], guard := none }) (o' := { dst := some 63, op := Go.Op.buildSlice 39 1 #[(0, Go.Operand.tmp 62)], type := 39, pos := "outright.go:115", after := #[{ on := 6, ground := Go.Ground.data }], guard := none }) rfl rfl (by kernel_rfl) rfl rfl ?_ ?_
        ·
          refine R42.dofive rfl (.tmp 58) (.tmp 60) rfl rfl ra rl rc R rfl HN.out (HR.out X42 (C3.out.trans (R42.below.mono HS3.out))) rfl (by omega) ?_
          intro a43 c43 X43 R43
          refine ⟨fun _ => R43.below, ?_⟩
          simp only [Act.put, List.setIfInBounds_toArray, List.set_cons_zero, List.set_cons_succ]
          refine oneL (i := 7) (o := { dst := some 63, op := Go.Op.buildSlice 39 1 #[(0, Go.Operand.tmp 62)], type := 39, pos := "outright.go:115", after := #[{ on := 6, ground := Go.Ground.data }], guard := none }) rfl (by kernel_rfl) rfl ?_
          refine R43.doseven (by go_simp) ?_
          intro g44 X44 R44
          refine ⟨fun _ => R44.below, ?_⟩
          simp only [Act.put, List.setIfInBounds_toArray, List.set_cons_zero, List.set_cons_succ]
          refine oneL (i := 8) (o := { dst := some 64, op := Go.Op.call { callee := Go.Callee.builtin Go.Builtin.append, args := #[Go.Operand.tmp 61, Go.Operand.tmp 63], argTypes := #[39, 39] }, type := 39, pos := "outright.go:115", after := #[{ on := 5, ground := Go.Ground.data }, { on := 7, ground := Go.Ground.data }, { on := 5, ground := Go.Ground.chain }], guard := none }) rfl (by kernel_rfl) rfl ?_
          refine R44.doeight rfl (.tmp 61) (.tmp 63) rfl rfl rfl (by rfl) rfl (rl + 1) HLEN.out (by omega) ?_
          intro a45 c45 X45 R45
          refine ⟨fun _ => R45.below, ?_⟩
          simp only [Act.put, List.setIfInBounds_toArray, List.set_cons_zero, List.set_cons_succ]
          refine takeL (i := 9) (oi := { dst := some 65, op := Go.Op.build 41 #[(0, Go.Operand.tmp 57), (1, Go.Operand.tmp 64)], type := 41, pos := "outright.go:115", after := #[{ on := 1, ground := Go.Ground.data }, { on := 8, ground := Go.Ground.data }], guard := none }) (v := .agg #[.slice pa pl pc, .slice a45 (rl + 1) c45]) [11] rfl (by kernel_rfl) (by kernel_rfl) (by kernel_rfl) (by kernel_rfl) (fun _ _ _ h => calm_panic h) rfl ?_ R45.below ?_
          · intro W hW
            go_simp
          simp only [Act.put, List.setIfInBounds_toArray, List.set_cons_zero, List.set_cons_succ]
          obtain ⟨e0, e1, e2, e3⟩ := R45.cells10
          refine oneL (i := 11) (o := { dst := none, op := Go.Op.store 41 (Go.Operand.tmp 13) (Go.Operand.tmp 65), type := 0, pos := "outright.go:115", after := #[{ on := 10, ground := Go.Ground.data }, { on := 9, ground := Go.Ground.data }, { on := 8, ground := Go.Ground.chain }, { on := 0, ground := Go.Ground.phase }, { on := 1, ground := Go.Ground.phase }, { on := 2, ground := Go.Ground.phase }, { on := 3, ground := Go.Ground.phase }, { on := 4, ground := Go.Ground.phase }, { on := 5, ground := Go.Ground.phase }, { on := 6, ground := Go.Ground.phase }, { on := 7, ground := Go.Ground.phase }, { on := 8, ground := Go.Ground.phase }, { on := 9, ground := Go.Ground.phase }, { on := 10, ground := Go.Ground.phase }], guard := none }) rfl (by kernel_rfl) rfl ?_
          refine wp_by_skip (w' := (X45.setCell ⟨g41, 0, none⟩ (.slice pa pl pc)).setCell ⟨g41, 1, none⟩ (.slice a45 (rl + 1) c45)) (by go_simp) ?_
          refine ⟨fun h => absurd rfl h, ?_⟩
          refine doneL (by kernel_rfl) (Calm.normal ⟨rfl, (.slice (some ⟨g42, 0, none⟩) 0 0), (.slice a43 rl c43), (.slice (some ⟨g44, 0, none⟩) 1 1), a45, c45, g41, ?_, R45.fin⟩) _
          simp only [Act.put, List.setIfInBounds_toArray, List.set_cons_zero, List.set_cons_succ]
        ·
          refine R42.doseven (by go_simp) ?_
          intro g46 X46 R46
          refine ⟨fun _ => R46.below, ?_⟩
          simp only [Act.put, List.setIfInBounds_toArray, List.set_cons_zero, List.set_cons_succ]
          refine oneL (i := 5) (o := { dst := some 61, op := Go.Op.call { callee := Go.Callee.builtin Go.Builtin.append, args := #[Go.Operand.tmp 58, Go.Operand.tmp 60], argTypes := #[39, 39] }, type := 39, pos := "outright.go:115", after := #[{ on := 2, ground := Go.Ground.data }, { on := 4, ground := Go.Ground.data }], guard := none }) rfl (by kernel_rfl) rfl ?_
          refine R46.dofive rfl (.tmp 58) (.tmp 60) rfl rfl ra rl rc R rfl HN.out (HR.out X46 (C3.out.trans (R46.below.mono HS3.out))) rfl (by omega) ?_
          intro a47 c47 X47 R47
          refine ⟨fun _ => R47.below, ?_⟩
          simp only [Act.put, List.setIfInBounds_toArray, List.set_cons_zero, List.set_cons_succ]
          refine oneL (i := 8) (o := { dst := some 64, op := Go.Op.call { callee := Go.Callee.builtin Go.Builtin.append, args := #[Go.Operand.tmp 61, Go.Operand.tmp 63], argTypes := #[39, 39] }, type := 39, pos := "outright.go:115", after := #[{ on := 5, ground := Go.Ground.data }, { on := 7, ground := Go.Ground.data }, { on := 5, ground := Go.Ground.chain }], guard := none }) rfl (by kernel_rfl) rfl ?_
          refine R47.doeight rfl (.tmp 61) (.tmp 63) rfl rfl rfl (by rfl) rfl (rl + 1) HLEN.out (by omega) ?_
          intro a48 c48 X48 R48
          refine ⟨fun _ => R48.below, ?_⟩
          simp only [Act.put, List.setIfInBounds_toArray, List.set_cons_zero, List.set_cons_succ]
          refine takeL (i := 9) (oi := { dst := some 65, op := Go.Op.build 41 #[(0, Go.Operand.tmp 57), (1, Go.Operand.tmp 64)], type := 41, pos := "outright.go:115", after := #[{ on := 1, ground := Go.Ground.data }, { on := 8, ground := Go.Ground.data }], guard := none }) (v := .agg #[.slice pa pl pc, .slice a48 (rl + 1) c48]) [11] rfl (by kernel_rfl) (by kernel_rfl) (by kernel_rfl) (by kernel_rfl) (fun _ _ _ h => calm_panic h) rfl ?_ R48.below ?_
          · intro W hW
            go_simp
          simp only [Act.put, List.setIfInBounds_toArray, List.set_cons_zero, List.set_cons_succ]
          obtain ⟨e0, e1, e2, e3⟩ := R48.cells10
          refine oneL (i := 11) (o := { dst := none, op := Go.Op.store 41 (Go.Operand.tmp 13) (Go.Operand.tmp 65), type := 0, pos := "outright.go:115", after := #[{ on := 10, ground := Go.Ground.data }, { on := 9, ground := Go.Ground.data }, { on := 8, ground := Go.Ground.chain }, { on := 0, ground := Go.Ground.phase }, { on := 1, ground := Go.Ground.phase }, { on := 2, ground := Go.Ground.phase }, { on := 3, ground := Go.Ground.phase }, { on := 4, ground := Go.Ground.phase }, { on := 5, ground := Go.Ground.phase }, { on := 6, ground := Go.Ground.phase }, { on := 7, ground := Go.Ground.phase }, { on := 8, ground := Go.Ground.phase }, { on := 9, ground := Go.Ground.phase }, { on := 10, ground := Go.Ground.phase }], guard := none }) rfl (by kernel_rfl) rfl ?_
          refine wp_by_skip (w' := (X48.setCell ⟨g41, 0, none⟩ (.slice pa pl pc)).setCell ⟨g41, 1, none⟩ (.slice a48 (rl + 1) c48)) (by go_simp) ?_
          refine ⟨fun h => absurd rfl h, ?_⟩
          refine doneL (by kernel_rfl) (Calm.normal ⟨rfl, (.slice (some ⟨g42, 0, none⟩) 0 0), (.slice a47 rl c47), (.slice (some ⟨g46, 0, none⟩) 1 1), a48, c48, g41, ?_, R48.fin⟩) _
          simp only [Act.put, List.setIfInBounds_toArray, List.set_cons_zero, List.set_cons_succ]
      ·
        refine R41.doseven (by go_simp) ?_
        intro g49 X49 R49
        refine ⟨fun _ => R49.below, ?_⟩
        simp only [Act.put, List.setIfInBounds_toArray, List.set_cons_zero, List.set_cons_succ]
        refine oneL (i := 2) (o := { dst := some 58, op := Go.Op.buildSlice 39 0 #[], type := 39, pos := "outright.go:115", after := #[], guard := none }) rfl (by kernel_rfl) rfl ?_
        refine R49.dotwo (by go_simp) ?_
        intro g50 X50 R50
        refine ⟨fun _ => R50.below, ?_⟩
        simp only [Act.put, List.setIfInBounds_toArray, List.set_cons_zero, List.set_cons_succ]
        refine oneL (i := 5) (o := { dst := some 61, op := Go.Op.call { callee := Go.Callee.builtin Go.Builtin.append, args := #[Go.Operand.tmp 58, Go.Operand.tmp 60], argTypes := #[39, 39] }, type := 39, pos := "outright.go:115", after := #[{ on := 2, ground := Go.Ground.data }, { on := 4, ground := Go.Ground.data }], guard := none }) rfl (by kernel_rfl) rfl ?_
        refine R50.dofive rfl (.tmp 58) (.tmp 60) rfl rfl ra rl rc R rfl HN.out (HR.out X50 (C3.out.trans (R50.below.mono HS3.out))) rfl (by omega) ?_
        intro a51 c51 X51 R51
        refine ⟨fun _ => R51.below, ?_⟩
        simp only [Act.put, List.setIfInBounds_toArray, List.set_cons_zero, List.set_cons_succ]
        refine oneL (i := 8) (o := { dst := some 64, op := Go.Op.call { callee := Go.Callee.builtin Go.Builtin.append, args := #[Go.Operand.tmp 61, Go.Operand.tmp 63], argTypes := #[39, 39] }, type := 39, pos := "outright.go:115", after := #[{ on := 5, ground := Go.Ground.data }, { on := 7, ground := Go.Ground.data }, { on := 5, ground := Go.Ground.chain }], guard := none }) rfl (by kernel_rfl) rfl ?_
        refine R51.doeight rfl (.tmp 61) (.tmp 63) rfl rfl rfl (by rfl) rfl (rl + 1) HLEN.out (by omega) ?_
        intro a52 c52 X52 R52
        refine ⟨fun _ => R52.below, ?_⟩
        simp only [Act.put, List.setIfInBounds_toArray, List.set_cons_zero, List.set_cons_succ]
        refine takeL (i := 9) (oi := { dst := some 65, op := Go.Op.build 41 #[(0, Go.Operand.tmp 57), (1, Go.Operand.tmp 64)], type := 41, pos := "outright.go:115", after := #[{ on := 1, ground := Go.Ground.data }, { on := 8, ground := Go.Ground.data }], guard := none }) (v := .agg #[.slice pa pl pc, .slice a52 (rl + 1) c52]) [11] rfl (by kernel_rfl) (by kernel_rfl) (by kernel_rfl) (by kernel_rfl) (fun _ _ _ h => calm_panic h) rfl ?_ R52.below ?_
        · intro W hW
          go_simp
        simp only [Act.put, List.setIfInBounds_toArray, List.set_cons_zero, List.set_cons_succ]
        obtain ⟨e0, e1, e2, e3⟩ := R52.cells10
        refine oneL (i := 11) (o := { dst := none, op := Go.Op.store 41 (Go.Operand.tmp 13) (Go.Operand.tmp 65), type := 0, pos := "outright.go:115", after := #[{ on := 10, ground := Go.Ground.data }, { on := 9, ground := Go.Ground.data }, { on := 8, ground := Go.Ground.chain }, { on := 0, ground := Go.Ground.phase }, { on := 1, ground := Go.Ground.phase }, { on := 2, ground := Go.Ground.phase }, { on := 3, ground := Go.Ground.phase }, { on := 4, ground := Go.Ground.phase }, { on := 5, ground := Go.Ground.phase }, { on := 6, ground := Go.Ground.phase }, { on := 7, ground := Go.Ground.phase }, { on := 8, ground := Go.Ground.phase }, { on := 9, ground := Go.Ground.phase }, { on := 10, ground := Go.Ground.phase }], guard := none }) rfl (by kernel_rfl) rfl ?_
        refine wp_by_skip (w' := (X52.setCell ⟨g41, 0, none⟩ (.slice pa pl pc)).setCell ⟨g41, 1, none⟩ (.slice a52 (rl + 1) c52)) (by go_simp) ?_
        refine ⟨fun h => absurd rfl h, ?_⟩
        refine doneL (by kernel_rfl) (Calm.normal ⟨rfl, (.slice (some ⟨g50, 0, none⟩) 0 0), (.slice a51 rl c51), (.slice (some ⟨g49, 0, none⟩) 1 1), a52, c52, g41, ?_, R52.fin⟩) _
        simp only [Act.put, List.setIfInBounds_toArray, List.set_cons_zero, List.set_cons_succ]
  rintro e a' W6 ⟨rfl, x2, x5, x7, a8, c8, g6, rfl, hF6⟩
  simp only [Act.put, List.setIfInBounds_toArray, List.set_cons_zero, List.set_cons_succ]
  obtain ⟨f1, f2, f3, f4⟩ := hF6
  have f5 := f4.size
  have HF6 := Lib.hid (show W0.heap.size ≤ g6 ∧ W6.heap[g6]? = some (.cells #[.slice pa pl pc, .slice a8 (rl + 1) c8] 41) ∧ OwnR W0.heap.size W6 (.slice a8 (rl + 1) c8) ((List.range rl).map R ++ [⟨0, 0, q % pl⟩]) ∧ Below W0.heap.size W0 W6 from ⟨f1, f2, f3, f4⟩)
  have C6 := Lib.hid (C3.out.trans (f4.mono HS3.out))
  have HS6 : Hid (w.heap.size ≤ W6.heap.size) := Lib.hid (Nat.le_trans HS3.out f5)
  have CL6 : Hid (∀ W, Below W6.heap.size W6 W → W.cell? ⟨w.heap.size, 0, none⟩ = some (.slice pa pl pc) ∧ W.cell? ⟨w.heap.size, 1, none⟩ = some (.slice ra rl rc) ∧ W.cell? ⟨w2.heap.size, 0, none⟩ = some (.int .i64 0) ∧ W.cell? ⟨w2.heap.size, 1, none⟩ = some (.int .i64 0) ∧ W.cell? ⟨w2.heap.size, 2, none⟩ = some (.int .i64 (q % pl))) := Lib.hid (fun W hW => CL.out W (HF6.out.2.2.2.trans (hW.mono HF6.out.2.2.2.size)))
  clear f1 f2 f3 f4 f5
  go_wp2_with fail
  refine cutR (fun a0 e a' W => e = .normal ∧ ∃ (x7 : Value) (a8 : Option Addr) (c8 g : Nat), a' = (((((((((a0.put (some 66) (.pointer (some ⟨w.heap.size, 0, none⟩))).put (some 67) (.slice pa pl pc)).put (some 68) (.agg #[.int .i64 0, .int .i64 0, .int .i64 (q % pl)])).put (some 69) (x7)).put (some 70) (.pointer (some ⟨w.heap.size, 1, none⟩))).put (some 71) (.slice ra rl rc)).put (some 72) (.slice a8 (rl + 1) c8)).put (some 73) (.agg #[.slice pa pl pc, .slice a8 (rl + 1) c8])).put (some 14) (.pointer (some ⟨g, 0, none⟩))) ∧ Fin W6.heap.size W6 (.slice pa pl pc) ([⟨0, 0, q % pl⟩] ++ (List.range rl).map R) g (.slice a8 (rl + 1) c8) W) ?_ ?_
  ·
    refine regionL (fun W => Below W6.heap.size W6 W) 9 HMX.out ?_
    have q1 : Below W6.heap.size W6 W6.drew := ⟨rfl, rfl, rfl, Nat.le_refl _, fun _ _ => rfl⟩
    refine takeL (i := 0) (oi := { dst := some 66, op := Go.Op.fieldAddr 41 (Go.Operand.tmp 4) 0, type := 0, pos := "outright.go:116", after := #[], guard := none }) (v := .pointer (some ⟨w.heap.size, 0, none⟩)) [9] rfl (by kernel_rfl) (by kernel_rfl) (by kernel_rfl) (by kernel_rfl) (fun _ _ _ h => calm_panic h) rfl ?_ q1 ?_
    · intro W hW
      (try dsimp only at hW)
      obtain ⟨c0, c1, c2, c3, c4⟩ := CL6.out W hW
      go_simp
    simp only [Act.put, List.setIfInBounds_toArray, List.set_cons_zero, List.set_cons_succ]
    refine takeL (i := 1) (oi := { dst := some 67, op := Go.Op.load 38 (Go.Operand.tmp 66), type := 38, pos := "outright.go:116", after := #[{ on := 0, ground := Go.Ground.data }], guard := none }) (v := .slice pa pl pc) [9] rfl (by kernel_rfl) (by kernel_rfl) (by kernel_rfl) (by kernel_rfl) (fun _ _ _ h => calm_panic h) rfl ?_ q1 ?_
    · intro W hW
      (try dsimp only at hW)
      obtain ⟨c0, c1, c2, c3, c4⟩ := CL6.out W hW
      go_simp
    simp only [Act.put, List.setIfInBounds_toArray, List.set_cons_zero, List.set_cons_succ]
    refine takeL (i := 2) (oi := { dst := some 68, op := Go.Op.load 48 (Go.Operand.tmp 12), type := 48, pos := "outright.go:116", after := #[], guard := none }) (v := .agg #[.int .i64 0, .int .i64 0, .int .i64 (q % pl)]) [9] rfl (by kernel_rfl) (by kernel_rfl) (by kernel_rfl) (by kernel_rfl) (fun _ _ _ h => calm_panic h) rfl ?_ q1 ?_
    · intro W hW
      (try dsimp only at hW)
      obtain ⟨c0, c1, c2, c3, c4⟩ := CL6.out W hW
      go_simp
    simp only [Act.put, List.setIfInBounds_toArray, List.set_cons_zero, List.set_cons_succ]
    refine takeL (i := 4) (oi := { dst := some 70, op := Go.Op.fieldAddr 41 (Go.Operand.tmp 4) 1, type := 0, pos := "outright.go:116", after := #[], guard := none }) (v := .pointer (some ⟨w.heap.size, 1, none⟩)) [9] rfl (by kernel_rfl) (by kernel_rfl) (by kernel_rfl) (by kernel_rfl) (fun _ _ _ h => calm_panic h) rfl ?_ q1 ?_
    · intro W hW
      (try dsimp only at hW)
      obtain ⟨c0, c1, c2, c3, c4⟩ := CL6.out W hW
      go_simp
    simp only [Act.put, List.setIfInBounds_toArray, List.set_cons_zero, List.set_cons_succ]
    refine takeL (i := 5) (oi := { dst := some 71, op := Go.Op.load 39 (Go.Operand.tmp 70), type := 39, pos := "outright.go:116", after := #[{ on := 4, ground := Go.Ground.data }], guard := none }) (v := .slice ra rl rc) [9] rfl (by kernel_rfl) (by kernel_rfl) (by kernel_rfl) (by kernel_rfl) (fun _ _ _ h => calm_panic h) rfl ?_ q1 ?_
    · intro W hW
      (try dsimp only at hW)
      obtain ⟨c0, c1, c2, c3, c4⟩ := CL6.out W hW
      go_simp
    simp only [Act.put, List.setIfInBounds_toArray, List.set_cons_zero, List.set_cons_succ]
    have R0 : RS W6.heap.size W6 W6.drew [] ([⟨0, 0, q % pl⟩] ++ (List.range rl).map R) (⟨0, 0, q % pl⟩ : Ru) none none none none none := ⟨q1, Nat.le_refl _, fun g e => (by cases e), fun g e => (by cases e), fun g e => (by cases e), fun g e => (by cases e), fun g e => (by cases e)⟩
    refine twoL (i := 3) (j := 8) (o := { dst := some 69, op := Go.Op.buildSlice 39 1 #[(0, Go.Operand.tmp 68)], type := 39, pos := "outright.go:116", after := #[{ on := 2, ground := Go.Ground.data }], guard := none }) (o' := { dst := some 14, op := Go.Op.alloc 41, type := 0, pos := "outright.go:116", after := #[], guard := none }) rfl rfl (by kernel_rfl) rfl rfl ?_ ?_
    ·
      refine R0.doseven (by go_simp) ?_
      intro g1 X1 R1
      refine ⟨fun _ => R1.below, ?_⟩
      simp only [Act.put, List.setIfInBounds_toArray, List.set_cons_zero, List.set_cons_succ]
      refine twoL (i := 6) (j := 8) (o := { dst := some 72, op := Go.Op.call { callee := Go.Callee.builtin Go.Builtin.append, args := #[Go.Operand.tmp 69, Go.Operand.tmp 71], argTypes := #[39, 39] }, type := 39, pos := "outright.go:116", after := #[{ on := 3, ground := Go.Ground.data }, { on := 5, ground := Go.Ground.data }], guard := none }) (o' := { dst := some 14, op := Go.Op.alloc 41, type := 0, pos := "outright.go:116", after := #[], guard := none }) rfl rfl (by kernel_rfl) rfl rfl ?_ ?_
      ·
        refine R1.dosix rfl (.tmp 69) (.tmp 71) rfl rfl ra rl rc R rfl HN.out (HR.out X1 (C6.out.trans (R1.below.mono HS6.out))) (by rfl) (rl + 1) (by omega) (by omega) ?_
        intro a2 c2 X2 R2
        refine ⟨fun _ => R2.below, ?_⟩
        simp only [Act.put, List.setIfInBounds_toArray, List.set_cons_zero, List.set_cons_succ]
        refine takeL (i := 7) (oi := { dst := some 73, op := Go.Op.build 41 #[(0, Go.Operand.tmp 67), (1, Go.Operand.tmp 72)], type := 41, pos := "outright.go:116", after := #[{ on := 1, ground := Go.Ground.data }, { on := 6, ground := Go.Ground.data }], guard := none }) (v := .agg #[.slice pa pl pc, .slice a2 (rl + 1) c2]) [9] rfl (by kernel_rfl) (by kernel_rfl) (by kernel_rfl) (by kernel_rfl) (fun _ _ _ h => calm_panic h) rfl ?_ R2.below ?_
        · intro W hW
          go_simp
        simp only [Act.put, List.setIfInBounds_toArray, List.set_cons_zero, List.set_cons_succ]
        refine oneL (i := 8) (o := { dst := some 14, op := Go.Op.alloc 41, type := 0, pos := "outright.go:116", after := #[], guard := none }) rfl (by kernel_rfl) rfl ?_
        refine R2.doten (by go_simp) ?_
        intro g3 X3 R3
        refine ⟨fun _ => R3.below, ?_⟩
        simp only [Act.put, List.setIfInBounds_toArray, List.set_cons_zero, List.set_cons_succ]
        obtain ⟨e0, e1, e2, e3⟩ := R3.cells10
        refine oneL (i := 9) (o := { dst := none, op := Go.Op.store 41 (Go.Operand.tmp 14) (Go.Operand.tmp 73), type := 0, pos := "outright.go:116", after := #[{ on := 8, ground := Go.Ground.data }, { on := 7, ground := Go.Ground.data }, { on := 6, ground := Go.Ground.chain }, { on := 0, ground := Go.Ground.phase }, { on := 1, ground := Go.Ground.phase }, { on := 2, ground := Go.Ground.phase }, { on := 3, ground := Go.Ground.phase }, { on := 4, ground := Go.Ground.phase }, { on := 5, ground := Go.Ground.phase }, { on := 6, ground := Go.Ground.phase }, { on := 7, ground := Go.Ground.phase }, { on := 8, ground := Go.Ground.phase }], guard := none }) rfl (by kernel_rfl) rfl ?_
        refine wp_by_skip (w' := (X3.setCell ⟨g3, 0, none⟩ (.slice pa pl pc)).setCell ⟨g3, 1, none⟩ (.slice a2 (rl + 1) c2)) (by go_simp) ?_
        refine ⟨fun h => absurd rfl h, ?_⟩
        refine doneL (by kernel_rfl) (Calm.normal ⟨rfl, (.slice (some ⟨g1, 0, none⟩) 1 1), a2, c2, g3, ?_, R3.fin⟩) _
        simp only [Act.put, List.setIfInBounds_toArray, List.set_cons_zero, List.set_cons_succ]
      ·
        refine R1.doten (by go_simp) ?_
        intro g4 X4 R4
        refine ⟨fun _ => R4.below, ?_⟩
        simp only [Act.put, List.setIfInBounds_toArray, List.set_cons_zero, List.set_cons_succ]
        refine oneL (i := 6) (o := { dst := some 72, op := Go.Op.call { callee := Go.Callee.builtin Go.Builtin.append, args := #[Go.Operand.tmp 69, Go.Operand.tmp 71], argTypes := #[39, 39] }, type := 39, pos := "outright.go:116", after := #[{ on := 3, ground := Go.Ground.data }, { on := 5, ground := Go.Ground.data }], guard := none }) rfl (by kernel_rfl) rfl ?_
        refine R4.dosix rfl (.tmp 69) (.tmp 71) rfl rfl ra rl rc R rfl HN.out (HR.out X4 (C6.out.trans (R4.below.mono HS6.out))) (by rfl) (rl + 1) (by omega) (by omega) ?_
        intro a5 c5 X5 R5
        refine ⟨fun _ => R5.below, ?_⟩
        simp only [Act.put, List.setIfInBounds_toArray, List.set_cons_zero, List.set_cons_succ]
        refine takeL (i := 7) (oi := { dst := some 73, op := Go.Op.build 41 #[(0, Go.Operand.tmp 67), (1, Go.Operand.tmp 72)], type := 41, pos := "outright.go:116", after := #[{ on := 1, ground := Go.Ground.data }, { on := 6, ground := Go.Ground.data }], guard := none }) (v := .agg #[.slice pa pl pc, .slice a5 (rl + 1) c5]) [9] rfl (by kernel_rfl) (by kernel_rfl) (by kernel_rfl) (by kernel_rfl) (fun _ _ _ h => calm_panic h) rfl ?_ R5.below ?_
        · intro W hW
          go_simp
        simp only [Act.put, List.setIfInBounds_toArray, List.set_cons_zero, List.set_cons_succ]
        obtain ⟨e0, e1, e2, e3⟩ := R5.cells10
        refine oneL (i := 9) (o := { dst := none, op := Go.Op.store 41 (Go.Operand.tmp 14) (Go.Operand.tmp 73), type := 0, pos := "outright.go:116", after := #[{ on := 8, ground := Go.Ground.data }, { on := 7, ground := Go.Ground.data }, { on := 6, ground := Go.Ground.chain }, { on := 0, ground := Go.Ground.phase }, { on := 1, ground := Go.Ground.phase }, { on := 2, ground := Go.Ground.phase }, { on := 3, ground := Go.Ground.phase }, { on := 4, ground := Go.Ground.phase }, { on := 5, ground := Go.Ground.phase }, { on := 6, ground := Go.Ground.phase }, { on := 7, ground := Go.Ground.phase }, { on := 8, ground := Go.Ground.phase }], guard := none }) rfl (by kernel_rfl) rfl ?_
        refine wp_by_skip (w' := (X5.setCell ⟨g4, 0, none⟩ (.slice pa pl pc)).setCell ⟨g4, 1, none⟩ (.slice a5 (rl + 1) c5)) (by go_simp) ?_
        refine ⟨fun h => absurd rfl h, ?_⟩
        refine doneL (by kernel_rfl) (Calm.normal ⟨rfl, (.slice (some ⟨g1, 0, none⟩) 1 1), a5, c5, g4, ?_, R5.fin⟩) _
        simp only [Act.put, List.setIfInBounds_toArray, List.set_cons_zero, List.set_cons_succ]
    ·
      refine R0.doten (by go_simp) ?_
      intro g6 X6 R6
      refine ⟨fun _ => R6.below, ?_⟩
      simp only [Act.put, List.setIfInBounds_toArray, List.set_cons_zero, List.set_cons_succ]
      refine oneL (i := 3) (o := { dst := some 69, op := Go.Op.buildSlice 39 1 #[(0, Go.Operand.tmp 68)], type := 39, pos := "outright.go:116", after := #[{ on := 2, ground := Go.Ground.data }], guard := none }) rfl (by kernel_rfl) rfl ?_
      refine R6.doseven (by go_simp) ?_
      intro g7 X7 R7
      refine ⟨fun _ => R7.below, ?_⟩
      simp only [Act.put, List.setIfInBounds_toArray, List.set_cons_zero, List.set_cons_succ]
      refine oneL (i := 6) (o := { dst := some 72, op := Go.Op.call { callee := Go.Callee.builtin Go.Builtin.append, args := #[Go.Operand.tmp 69, Go.Operand.tmp 71], argTypes := #[39, 39] }, type := 39, pos := "outright.go:116", after := #[{ on := 3, ground := Go.Ground.data }, { on := 5, ground := Go.Ground.data }], guard := none }) rfl (by kernel_rfl) rfl ?_
      refine R7.dosix rfl (.tmp 69) (.tmp 71) rfl rfl ra rl rc R rfl HN.out (HR.out X7 (C6.out.trans (R7.below.mono HS6.out))) (by rfl) (rl + 1) (by omega) (by omega) ?_
      intro a8 c8 X8 R8
      refine ⟨fun _ => R8.below, ?_⟩
      simp only [Act.put, List.setIfInBounds_toArray, List.set_cons_zero, List.set_cons_succ]
      refine takeL (i := 7) (oi := { dst := some 73, op := Go.Op.build 41 #[(0, Go.Operand.tmp 67), (1, Go.Operand.tmp 72)], type := 41, pos := "outright.go:116", after := #[{ on := 1, ground := Go.Ground.data }, { on := 6, ground := Go.Ground.data }], guard := none }) (v := .agg #[.slice pa pl pc, .slice a8 (rl + 1) c8]) [9] rfl (by kernel_rfl) (by kernel_rfl) (by kernel_rfl) (by kernel_rfl) (fun _ _ _ h => calm_panic h) rfl ?_ R8.below ?_
      · intro W hW
        go_simp
      simp only [Act.put, List.setIfInBounds_toArray, List.set_cons_zero, List.set_cons_succ]
      obtain ⟨e0, e1, e2, e3⟩ := R8.cells10
      refine oneL (i := 9) (o := { dst := none, op := Go.Op.store 41 (Go.Operand.tmp 14) (Go.Operand.tmp 73), type := 0, pos := "outright.go:116", after := #[{ on := 8, ground := Go.Ground.data }, { on := 7, ground := Go.Ground.data }, { on := 6, ground := Go.Ground.chain }, { on := 0, ground := Go.Ground.phase }, { on := 1, ground := Go.Ground.phase }, { on := 2, ground := Go.Ground.phase }, { on := 3, ground := Go.Ground.phase }, { on := 4, ground := Go.Ground.phase }, { on := 5, ground := Go.Ground.phase }, { on := 6, ground := Go.Ground.phase }, { on := 7, ground := Go.Ground.phase }, { on := 8, ground := Go.Ground.phase }], guard := none }) rfl (by kernel_rfl) rfl ?_
      refine wp_by_skip (w' := (X8.setCell ⟨g6, 0, none⟩ (.slice pa pl pc)).setCell ⟨g6, 1, none⟩ (.slice a8 (rl + 1) c8)) (by go_simp) ?_
      refine ⟨fun h => absurd rfl h, ?_⟩
      refine doneL (by kernel_rfl) (Calm.normal ⟨rfl, (.slice (some ⟨g7, 0, none⟩) 1 1), a8, c8, g6, ?_, R8.fin⟩) _
      simp only [Act.put, List.setIfInBounds_toArray, List.set_cons_zero, List.set_cons_succ]
  rintro e a' W7 ⟨rfl, y7, b8, d8, g7, rfl, hF7⟩
  simp only [Act.put, List.setIfInBounds_toArray, List.set_cons_zero, List.set_cons_succ]
  obtain ⟨f1, f2, f3, f4⟩ := hF7
  have hrow := HF6.out.2.2.1.row
  have hg6 : g6 < W6.heap.size := (Array.getElem?_eq_some_iff.1 HF6.out.2.1).1
  have C7 := Lib.hid (C6.out.trans (f4.mono HS6.out))
  have HS7 : Hid (w.heap.size + 1 ≤ W0.heap.size ∧ W0.heap.size ≤ W6.heap.size ∧ W6.heap.size ≤ W7.heap.size) := Lib.hid ⟨by have := HS2.out; have := HS4.out; omega, HF6.out.2.2.2.size, f4.size⟩
  have HT6 : Hid (W0.heap.size ≤ g6 ∧ W7.heap[g6]? = some (.cells #[.slice pa pl pc, .slice a8 (rl + 1) c8] 41) ∧ OwnR W0.heap.size W7 (.slice a8 (rl + 1) c8) ((List.range rl).map R ++ [⟨0, 0, q % pl⟩])) := Lib.hid ⟨HF6.out.1, (f4.block g6 hg6).trans HF6.out.2.1, HF6.out.2.2.1.kept (fun k hk => f4.block k (hrow k hk).2)⟩
  have HT7 : Hid (W6.heap.size ≤ g7 ∧ W7.heap[g7]? = some (.cells #[.slice pa pl pc, .slice b8 (rl + 1) d8] 41) ∧ OwnR W6.heap.size W7 (.slice b8 (rl + 1) d8) ([⟨0, 0, q % pl⟩] ++ (List.range rl).map R)) := Lib.hid ⟨f1, f2, f3⟩
  have CL7 := Lib.hid (fun W (hW : Below W7.heap.size W7 W) => CL6.out W (f4.trans (hW.mono f4.size)))
  clear f1 f2 f3 f4 hrow hg6 HF6 CL6 CL C6
  obtain ⟨y0, y1, y2, y3, y4⟩ := CL7.out W7 (Below.refl _ W7)
  have HTC := Lib.hid (show W7.heap[g6]? = some (.cells #[.slice pa pl pc, .slice a8 (rl + 1) c8] 41) ∧ W7.heap[g7]? = some (.cells #[.slice pa pl pc, .slice b8 (rl + 1) d8] 41) from ⟨HT6.out.2.1, HT7.out.2.1⟩)
  have HR6 : Hid (∀ W, Below W7.heap.size W7 W → RusAt W.heap.size W a8 (rl + 1) (behR R rl ⟨0, 0, q % pl⟩)) := Lib.hid (fun W hW => by
    have h := (HT6.out.2.2.kept (fun k hk => hW.block k (HT6.out.2.2.row k hk).2)).rus
    rw [HLEN.out] at h
    exact h)
  have HR7 : Hid (∀ W, Below W7.heap.size W7 W → RusAt W.heap.size W b8 (rl + 1) (aheR R rl ⟨0, 0, q % pl⟩)) := Lib.hid (fun W hW => by
    have h := (HT7.out.2.2.kept (fun k hk => hW.block k (HT7.out.2.2.row k hk).2)).rus
    rw [show ([(⟨0, 0, q % pl⟩ : Ru)] ++ (List.range rl).map R).length = rl + 1 by simp] at h
    exact h)
  have HP7 : Hid (∀ W, Below W7.heap.size W7 W → PlsAt W.heap.size W pa pl P ∧ Below w.heap.size w W) := Lib.hid (fun W hW => by
    have h : Below w.heap.size w W := C7.out.trans (hW.mono (by have := HS7.out; omega))
    exact ⟨HP.out W h, h⟩)
  have HY6 := Lib.hid (beh_may HY.out hrl (al_is (q := q) hp1))
  have HY7 := Lib.hid (ahe_may HY.out hrl (al_is (q := q) hp1))
  have hrm' : rl + 1 ≤ maxLen := by unfold maxLen; omega
  clear HT6 HT7
  go_wp2_with fail
  go_loopw [15, 77] (fun mt i wr => ∃ m : Nat, m ≤ rl ∧ mt = .bool (MetN R s kd m) ∧ i = .int .i64 m ∧ Below W7.heap.size W7 wr) (fun _ i _ => (rl - intOf i).toNat)
  case atStart => exact ⟨0, Nat.zero_le _, rfl, rfl, Below.refl _ _⟩
  case round =>
    obtain ⟨m, hm, rfl, rfl, hb⟩ := hrel
    have HB := Lib.hid hb
    clear hb y0 y1 y2 y3 y4
    by_cases hlt : m < rl
    · have hlti : (m : Int) < rl := by omega
      obtain ⟨b, o, rfl, hbl, c0, c1, c2⟩ := HR.out wr (C7.out.trans (HB.out.mono (by have := HS7.out; omega))) m hlt
      obtain ⟨y0, y1, _⟩ := CL7.out wr HB.out
      have HMS : Hid (MetN R s kd (m + 1) = (MetN R s kd m || decide (Fits (R m) s kd))) := Lib.hid rfl
      obtain ⟨⟨rs, rk, rp⟩, hr⟩ : ∃ r, R m = r := ⟨_, rfl⟩
      rw [hr] at c0 c1 c2 HMS
      simp only at c0 c1 c2
      have HBA := Lib.hid (HB.out.alloc HB.out.size (.cells #[.int .i64 rs, .int .i64 rk, .int .i64 rp] 48))
      clear hr
      cases hmt : MetN R s kd m
      · rw [hmt, Bool.false_or] at HMS
        clear hmt
        by_cases s0 : rs = 0
        · have q1 : (rs == 0) = true := by simp [s0]
          by_cases k0 : rk = 0
          · have q3 : (rk == 0) = true := by simp [k0]
            rw [fits_a (.inl s0) k0] at HMS
            clear s0 k0
            go_wp2
            go_roundw
            case rel => exact ⟨m + 1, by omega, by rw [HMS.out], by go_num, HBA.out⟩
            case measure => first | (simp [intOf]; done) | (simp [intOf]; omega)
          · have q3 : (rk == 0) = false := by simp [k0]
            rw [fits_b (.inl s0) k0] at HMS
            clear s0 k0
            go_wp2
            go_roundw
            case rel => exact ⟨m + 1, by omega, by rw [HMS.out], by go_num, HBA.out⟩
            case measure => first | (simp [intOf]; done) | (simp [intOf]; omega)
        · have q1 : (rs == 0) = false := by simp [s0]
          by_cases s1 : rs = s
          · have q2 : (rs == s) = true := by simp [s1]
            by_cases k0 : rk = 0
            · have q3 : (rk == 0) = true := by simp [k0]
              rw [fits_a (.inr s1) k0] at HMS
              clear s0 k0 s1
              go_wp2
              go_roundw
              case rel => exact ⟨m + 1, by omega, by rw [HMS.out], by go_num, HBA.out⟩
              case measure => first | (simp [intOf]; done) | (simp [intOf]; omega)
            · have q3 : (rk == 0) = false := by simp [k0]
              rw [fits_b (.inr s1) k0] at HMS
              clear s0 k0 s1
              go_wp2
              go_roundw
              case rel => exact ⟨m + 1, by omega, by rw [HMS.out], by go_num, HBA.out⟩
              case measure => first | (simp [intOf]; done) | (simp [intOf]; omega)
          · have q2 : (rs == s) = false := by simp [s1]
            rw [fits_c s0 s1] at HMS
            clear s0 s1
            go_wp2
            go_roundw
            case rel => exact ⟨m + 1, by omega, by rw [HMS.out], by go_num, HBA.out⟩
            case measure => first | (simp [intOf]; done) | (simp [intOf]; omega)
      · rw [hmt, Bool.true_or] at HMS
        clear hmt
        go_wp2
        go_roundw
        case rel => exact ⟨m + 1, by omega, by rw [HMS.out], by go_num, HBA.out⟩
        case measure => first | (simp [intOf]; done) | (simp [intOf]; omega)
    · have hme : m = rl := by omega
      subst hme
      have HTW : Hid (∀ W, Below W7.heap.size W7 W → W.cell? ⟨g6, 0, none⟩ = some (.slice pa pl pc) ∧ W.cell? ⟨g6, 1, none⟩ = some (.slice a8 (m + 1) c8) ∧ W.cell? ⟨g7, 0, none⟩ = some (.slice pa pl pc) ∧ W.cell? ⟨g7, 1, none⟩ = some (.slice b8 (m + 1) d8)) := Lib.hid (fun W hW => by
        obtain ⟨t0, t1⟩ := HTC.out
        have u0 := (hW.block g6 (Array.getElem?_eq_some_iff.1 t0).1).trans t0
        have u1 := (hW.block g7 (Array.getElem?_eq_some_iff.1 t1).1).trans t1
        exact ⟨cell_of_row _ _ 0 _ _ _ u0, cell_of_row _ _ 1 _ _ _ u0, cell_of_row _ _ 0 _ _ _ u1, cell_of_row _ _ 1 _ _ _ u1⟩)
      obtain ⟨x0, x1, _, _⟩ := HTW.out wr HB.out
      cases hmt : MetN R s kd m
      ·
        go_wp2_with fail
        refine (planT_yes pa pl pc a8 (m + 1) c8 P _ s kd HY6.out wr (HP7.out wr HB.out).1 (HR6.out wr HB.out) hlm hrm').mono ?_
        rintro e w3 ⟨⟨p, hp, rfl⟩, hB3⟩
        obtain ⟨rfl, hbn⟩ := beh_not (al := ⟨0, 0, q % pl⟩) hmt ⟨.inl rfl, .inl rfl⟩ HWAS.out
        obtain rfl : p = q % pl := PlanOf.unique hp hbn
        clear hbn
        have D3 := Lib.hid (HB.out.trans (hB3.mono HB.out.size))
        obtain ⟨_, _, z2, z3⟩ := HTW.out w3 D3.out
        clear hB3 hp x0 x1
        go_wp2_with fail
        refine (planT_yes pa pl pc b8 (m + 1) d8 P _ s kd HY7.out w3 (HP7.out w3 D3.out).1 (HR7.out w3 D3.out) hlm hrm').mono ?_
        rintro e w4 ⟨⟨p', hp', rfl⟩, hB4⟩
        obtain rfl : p' = q % pl := PlanOf.unique hp' (ahe_is ⟨.inl rfl, .inl rfl⟩)
        have D4 := Lib.hid (D3.out.trans (hB4.mono D3.out.size))
        obtain ⟨_, _, y2, y3, y4⟩ := CL7.out w4 D4.out
        clear hB4 hp' z2 z3
        go_wp2
        go_ret
        exact ⟨by simp, (HP7.out w4 D4.out).2⟩
      ·
        go_wp2_with fail
        refine (planT_yes pa pl pc a8 (m + 1) c8 P _ s kd HY6.out wr (HP7.out wr HB.out).1 (HR6.out wr HB.out) hlm hrm').mono ?_
        rintro e w3 ⟨⟨p, hp, rfl⟩, hB3⟩
        obtain rfl : p = was := PlanOf.unique hp (beh_met hmt HWAS.out)
        have D3 := Lib.hid (HB.out.trans (hB3.mono HB.out.size))
        obtain ⟨_, _, z2, z3⟩ := HTW.out w3 D3.out
        clear hB3 hp x0 x1
        go_wp2_with fail
        refine (planT_yes pa pl pc b8 (m + 1) d8 P _ s kd HY7.out w3 (HP7.out w3 D3.out).1 (HR7.out w3 D3.out) hlm hrm').mono ?_
        rintro e w4 ⟨⟨p', hp', rfl⟩, hB4⟩
        obtain rfl : p' = q % pl := PlanOf.unique hp' (ahe_is ⟨.inl rfl, .inl rfl⟩)
        have D4 := Lib.hid (D3.out.trans (hB4.mono D3.out.size))
        obtain ⟨_, _, y2, y3, y4⟩ := CL7.out w4 D4.out
        clear hB4 hp' z2 z3
        go_wp2
        go_ret
        exact ⟨by simp, (HP7.out w4 D4.out).2⟩
set_option maxRecDepth 100000 in
set_option maxHeartbeats 2000000 in
theorem rulesW_many (pa : Option Addr) (pl pc : Nat) (ra : Option Addr) (rl rc : Nat) (P : Nat → Pl) (R : Nat → Ru) (s kd q : Int) (h90 : 90 < rl) (w : World) (hP : PlsAt w.heap.size w pa pl P) (hR : RusAt w.heap.size w ra rl R) (hlm : pl ≤ maxLen) (hrm : rl ≤ maxLen) :
    Calls Try.prog 6 #[tabV pa pl pc ra rl rc, .int .i64 s, .int .i64 kd, .int .u8 q] w fun e w' => e = .returned (.bool true) ∧ Below w.heap.size w w' := by
  have g1 : (90 : Int) < rl := by omega
  have hz := heap_alloc_new w (.cells #[.slice pa pl pc, .slice ra rl rc] 41)
  have hb0 := (Below.refl _ w).alloc (Nat.le_refl _) (.cells #[.slice pa pl pc, .slice ra rl rc] 41)
  have hxs : (w.alloc (.cells #[.slice pa pl pc, .slice ra rl rc] 41)).heap.size = w.heap.size + 1 := World.size_alloc _ _
  have HAL := Lib.hid (alive_any (w.alloc (.cells #[.slice pa pl pc, .slice ra rl rc] 41)))
  have HZ := Lib.hid hz
  have HB0 := Lib.hid hb0
  have HXS := Lib.hid hxs
  have HP := Lib.hid (fun (W : World) (hB : Below w.heap.size w W) => (hP.next hB (Nat.le_refl _) (Nat.le_refl _)).mono hB.size)
  have HR := Lib.hid (fun (W : World) (hB : Below w.heap.size w W) => (hR.next hB (Nat.le_refl _) (Nat.le_refl _)).mono hB.size)
  clear hz hb0 hxs hP hR
  go_enter Try.func6, Try.ntmps6
  go_wp2_with fail
  refine HAL.out.mono ?_
  rintro e w1 ⟨rfl, hB1⟩
  have hz1 := (hB1.block w.heap.size (by rw [HXS.out]; omega)).trans HZ.out
  have hs1 := hB1.size
  rw [HXS.out] at hs1
  have C1 := Lib.hid (HB0.out.trans (hB1.mono HB0.out.size))
  have Z1 := Lib.hid hz1
  obtain ⟨z0, z1⟩ : w1.cell? ⟨w.heap.size, 0, none⟩ = some (.slice pa pl pc) ∧ w1.cell? ⟨w.heap.size, 1, none⟩ = some (.slice ra rl rc) := ⟨cell_of_row _ _ 0 _ _ _ hz1, cell_of_row _ _ 1 _ _ _ hz1⟩
  clear hB1 hz1 HAL HB0 HZ
  go_wp2_with fail
  refine (planQ_any pa pl pc ra rl rc P R s kd w1 (HP.out w1 C1.out) (HR.out w1 C1.out) hlm hrm).mono ?_
  rintro e w2 ⟨⟨p, is, rfl⟩, hB2⟩
  have hz2 := (hB2.block w.heap.size (by omega)).trans Z1.out
  have C2 := Lib.hid (C1.out.trans (hB2.mono C1.out.size))
  obtain ⟨y0, y1⟩ : w2.cell? ⟨w.heap.size, 0, none⟩ = some (.slice pa pl pc) ∧ w2.cell? ⟨w.heap.size, 1, none⟩ = some (.slice ra rl rc) := ⟨cell_of_row _ _ 0 _ _ _ hz2, cell_of_row _ _ 1 _ _ _ hz2⟩
  clear hB2 hz2 z0 z1 C1 Z1
  go_wp2
  go_ret
  exact ⟨rfl, C2.out⟩
set_option maxRecDepth 100000 in
set_option maxHeartbeats 2000000 in
theorem rulesW_no (pa : Option Addr) (pl pc : Nat) (ra : Option Addr) (rl rc : Nat) (P : Nat → Pl) (R : Nat → Ru) (s kd q : Int) (hno : ¬ PlanMay P pl R rl s kd) (h90 : ¬ 90 < rl) (w : World) (hP : PlsAt w.heap.size w pa pl P) (hR : RusAt w.heap.size w ra rl R) (hlm : pl ≤ maxLen) (hrm : rl ≤ maxLen) :
    Calls Try.prog 6 #[tabV pa pl pc ra rl rc, .int .i64 s, .int .i64 kd, .int .u8 q] w fun e w' => e = .returned (.bool true) ∧ Below w.heap.size w w' := by
  have g1 : ¬ (90 : Int) < rl := by omega
  have HNO := Lib.hid hno
  clear hno
  have hz := heap_alloc_new w (.cells #[.slice pa pl pc, .slice ra rl rc] 41)
  have hb0 := (Below.refl _ w).alloc (Nat.le_refl _) (.cells #[.slice pa pl pc, .slice ra rl rc] 41)
  have hxs : (w.alloc (.cells #[.slice pa pl pc, .slice ra rl rc] 41)).heap.size = w.heap.size + 1 := World.size_alloc _ _
  have HAL := Lib.hid (alive_any (w.alloc (.cells #[.slice pa pl pc, .slice ra rl rc] 41)))
  have HZ := Lib.hid hz
  have HB0 := Lib.hid hb0
  have HXS := Lib.hid hxs
  have HP := Lib.hid (fun (W : World) (hB : Below w.heap.size w W) => (hP.next hB (Nat.le_refl _) (Nat.le_refl _)).mono hB.size)
  have HR := Lib.hid (fun (W : World) (hB : Below w.heap.size w W) => (hR.next hB (Nat.le_refl _) (Nat.le_refl _)).mono hB.size)
  clear hz hb0 hxs hP hR
  go_enter Try.func6, Try.ntmps6
  go_wp2_with fail
  refine HAL.out.mono ?_
  rintro e w1 ⟨rfl, hB1⟩
  have hz1 := (hB1.block w.heap.size (by rw [HXS.out]; omega)).trans HZ.out
  have hs1 := hB1.size
  rw [HXS.out] at hs1
  have C1 := Lib.hid (HB0.out.trans (hB1.mono HB0.out.size))
  have Z1 := Lib.hid hz1
  obtain ⟨z0, z1⟩ : w1.cell? ⟨w.heap.size, 0, none⟩ = some (.slice pa pl pc) ∧ w1.cell? ⟨w.heap.size, 1, none⟩ = some (.slice ra rl rc) := ⟨cell_of_row _ _ 0 _ _ _ hz1, cell_of_row _ _ 1 _ _ _ hz1⟩
  clear hB1 hz1 HAL HB0 HZ
  go_wp2_with fail
  refine (planT_no pa pl pc ra rl rc P R s kd HNO.out w1 (HP.out w1 C1.out) (HR.out w1 C1.out) hlm hrm).mono ?_
  rintro e w2 ⟨rfl, hB2⟩
  have hz2 := (hB2.block w.heap.size (by omega)).trans Z1.out
  have C2 := Lib.hid (C1.out.trans (hB2.mono C1.out.size))
  obtain ⟨y0, y1⟩ : w2.cell? ⟨w.heap.size, 0, none⟩ = some (.slice pa pl pc) ∧ w2.cell? ⟨w.heap.size, 1, none⟩ = some (.slice ra rl rc) := ⟨cell_of_row _ _ 0 _ _ _ hz2, cell_of_row _ _ 1 _ _ _ hz2⟩
  clear hB2 hz2 z0 z1 C1 Z1
  by_cases h60 : 60 < pl
  · have g2 : (60 : Int) < pl := by omega
    go_wp2
    go_ret
    exact ⟨rfl, C2.out⟩
  · have g2 : ¬ (60 : Int) < pl := by omega
    go_wp2
    go_ret
    exact ⟨rfl, C2.out⟩
set_option maxRecDepth 100000 in
set_option maxHeartbeats 2000000 in
theorem rulesW (pa : Option Addr) (pl pc : Nat) (ra : Option Addr) (rl rc : Nat) (P : Nat → Pl) (R : Nat → Ru) (s kd q : Int) (w : World) (hw : (pl ≤ pc ∧ pc ≤ maxLen) ∧ (rl ≤ rc ∧ rc ≤ maxLen) ∧ PlsAt w.heap.size w pa pl P ∧ RusAt w.heap.size w ra rl R ∧ (ra = none → rl = 0 ∧ rc = 0)) (_h1 : (Lit.int .i64 s).wf = true) (_h2 : (Lit.int .i64 kd).wf = true) (h3 : (Lit.int .u8 q).wf = true) :
    Calls Try.prog 6 #[tabV pa pl pc ra rl rc, .int .i64 s, .int .i64 kd, .int .u8 q] w fun e w' => e = .returned (.bool true) ∧ Below w.heap.size w w' := by
  obtain ⟨⟨a1, a2⟩, ⟨b1, b2⟩, hP, hR, hn⟩ := hw
  have hq : 0 ≤ q ∧ q ≤ 255 := by simp [Lit.wf, IntKind.min, IntKind.max, IntKind.bits, IntKind.signed] at h3; exact h3
  by_cases h90 : 90 < rl
  · exact rulesW_many pa pl pc ra rl rc P R s kd q h90 w hP hR (by omega) (by omega)
  · by_cases hy : PlanMay P pl R rl s kd
    · exact rulesW_few pa pl pc ra rl rc P R s kd q hy hq.1 hq.2 (by omega) w hP hR (by omega) (by omega) hn
    · exact rulesW_no pa pl pc ra rl rc P R s kd q hy h90 w hP hR (by omega) (by omega)
end Go.Proofs.Ytmbimnphdhmapaa
