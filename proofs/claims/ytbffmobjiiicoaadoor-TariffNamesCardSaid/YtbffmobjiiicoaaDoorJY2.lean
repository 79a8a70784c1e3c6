/- Joined: YLocal YOffs YAlive. -/
import Derived.Test.YtbffmobjiiicoaaDoorJY
section
/- Contract of the program's localOf: the local time of an instant. -/
set_option linter.unusedVariables false
set_option linter.unusedSimpArgs false
namespace Go.Proofs.YtbffmobjiiicoaaDoor
open Go.RowKit Go.Shelf
/-- A moment, stored cell by cell. -/
theorem mom_put {W : World} {b : Nat} {v0 v1 v2 v3 v4 v5 : Value} {T : TypeId} (y m d h mi s : Int) (g : W.heap[b]? = some (.cells #[v0, v1, v2, v3, v4, v5] T (0, 0))) :
    ((((((W.setCell ⟨b, 0, none⟩ (.int .i64 y)).setCell ⟨b, 1, none⟩ (.int .i64 m)).setCell ⟨b, 2, none⟩ (.int .i64 d)).setCell ⟨b, 3, none⟩ (.int .i64 h)).setCell ⟨b, 4, none⟩ (.int .i64 mi)).setCell ⟨b, 5, none⟩ (.int .i64 s)).heap[b]? = some (.cells #[.int .i64 y, .int .i64 m, .int .i64 d, .int .i64 h, .int .i64 mi, .int .i64 s] T (0, 0)) := by
  have g0 : (W.setCell ⟨b, 0, none⟩ (.int .i64 y)).heap[b]? = some (.cells #[.int .i64 y, v1, v2, v3, v4, v5] T (0, 0)) := heap_setCell_same _ b 0 #[v0, v1, v2, v3, v4, v5] T (.int .i64 y) g
  have g1 : ((W.setCell ⟨b, 0, none⟩ (.int .i64 y)).setCell ⟨b, 1, none⟩ (.int .i64 m)).heap[b]? = some (.cells #[.int .i64 y, .int .i64 m, v2, v3, v4, v5] T (0, 0)) := heap_setCell_same _ b 1 #[.int .i64 y, v1, v2, v3, v4, v5] T (.int .i64 m) g0
  have g2 : (((W.setCell ⟨b, 0, none⟩ (.int .i64 y)).setCell ⟨b, 1, none⟩ (.int .i64 m)).setCell ⟨b, 2, none⟩ (.int .i64 d)).heap[b]? = some (.cells #[.int .i64 y, .int .i64 m, .int .i64 d, v3, v4, v5] T (0, 0)) := heap_setCell_same _ b 2 #[.int .i64 y, .int .i64 m, v2, v3, v4, v5] T (.int .i64 d) g1
  have g3 : ((((W.setCell ⟨b, 0, none⟩ (.int .i64 y)).setCell ⟨b, 1, none⟩ (.int .i64 m)).setCell ⟨b, 2, none⟩ (.int .i64 d)).setCell ⟨b, 3, none⟩ (.int .i64 h)).heap[b]? = some (.cells #[.int .i64 y, .int .i64 m, .int .i64 d, .int .i64 h, v4, v5] T (0, 0)) := heap_setCell_same _ b 3 #[.int .i64 y, .int .i64 m, .int .i64 d, v3, v4, v5] T (.int .i64 h) g2
  have g4 : (((((W.setCell ⟨b, 0, none⟩ (.int .i64 y)).setCell ⟨b, 1, none⟩ (.int .i64 m)).setCell ⟨b, 2, none⟩ (.int .i64 d)).setCell ⟨b, 3, none⟩ (.int .i64 h)).setCell ⟨b, 4, none⟩ (.int .i64 mi)).heap[b]? = some (.cells #[.int .i64 y, .int .i64 m, .int .i64 d, .int .i64 h, .int .i64 mi, v5] T (0, 0)) := heap_setCell_same _ b 4 #[.int .i64 y, .int .i64 m, .int .i64 d, .int .i64 h, v4, v5] T (.int .i64 mi) g3
  have g5 : ((((((W.setCell ⟨b, 0, none⟩ (.int .i64 y)).setCell ⟨b, 1, none⟩ (.int .i64 m)).setCell ⟨b, 2, none⟩ (.int .i64 d)).setCell ⟨b, 3, none⟩ (.int .i64 h)).setCell ⟨b, 4, none⟩ (.int .i64 mi)).setCell ⟨b, 5, none⟩ (.int .i64 s)).heap[b]? = some (.cells #[.int .i64 y, .int .i64 m, .int .i64 d, .int .i64 h, .int .i64 mi, .int .i64 s] T (0, 0)) := heap_setCell_same _ b 5 #[.int .i64 y, .int .i64 m, .int .i64 d, .int .i64 h, .int .i64 mi, v5] T (.int .i64 s) g4
  exact g5
theorem mom_putB {B : Nat} {w W : World} {b : Nat} (y m d h mi s : Int) (hB : Below B w W) (hb : B ≤ b) :
    Below B w ((((((W.setCell ⟨b, 0, none⟩ (.int .i64 y)).setCell ⟨b, 1, none⟩ (.int .i64 m)).setCell ⟨b, 2, none⟩ (.int .i64 d)).setCell ⟨b, 3, none⟩ (.int .i64 h)).setCell ⟨b, 4, none⟩ (.int .i64 mi)).setCell ⟨b, 5, none⟩ (.int .i64 s)) :=
  ((((((hB.setCell (p := ⟨b, 0, none⟩) hb (.int .i64 y)).setCell (p := ⟨b, 1, none⟩) hb (.int .i64 m)).setCell (p := ⟨b, 2, none⟩) hb (.int .i64 d)).setCell (p := ⟨b, 3, none⟩) hb (.int .i64 h)).setCell (p := ⟨b, 4, none⟩) hb (.int .i64 mi)).setCell (p := ⟨b, 5, none⟩) hb (.int .i64 s))
theorem results_localOf {y m d h mi s : Int} {u v : Value} {b : Nat} {tmps : Array Value} {w : World} (h2 : tmps.getD 4 undef = .pointer (some ⟨b, 0, none⟩)) (h3 : tmps.getD 5 undef = u) (h4 : tmps.getD 6 undef = v)
    (hb : w.heap[b]? = some (.cells #[.int .i64 y, .int .i64 m, .int .i64 d, .int .i64 h, .int .i64 mi, .int .i64 s] 112 (0, 0))) : (results Tryd.f46 tmps).run Tryd.prog w = .ok (.tuple #[momV y m d h mi s, u, v]) w := by
  have c0 : w.cell? ⟨b, 0, none⟩ = some (.int .i64 y) := cell_of_row w b 0 _ _ _ hb
  have c1 : w.cell? ⟨b, 1, none⟩ = some (.int .i64 m) := cell_of_row w b 1 _ _ _ hb
  have c2 : w.cell? ⟨b, 2, none⟩ = some (.int .i64 d) := cell_of_row w b 2 _ _ _ hb
  have c3 : w.cell? ⟨b, 3, none⟩ = some (.int .i64 h) := cell_of_row w b 3 _ _ _ hb
  have c4 : w.cell? ⟨b, 4, none⟩ = some (.int .i64 mi) := cell_of_row w b 4 _ _ _ hb
  have c5 : w.cell? ⟨b, 5, none⟩ = some (.int .i64 s) := cell_of_row w b 5 _ _ _ hb
  simp only [Array.getD_eq_getD_getElem?] at h2 h3 h4
  simp [results, Tryd.results46, go_sem, h2, h3, h4, c0, c1, c2, c3, c4, c5, momV]
/-- The local time of an instant in seconds; the moment of some seconds. -/
def locOf (off : Int) (R : Nat → Rl) (len : Nat) (t : Int) : Int := t + offT off R len t
theorem offT_x (off : Int) (R : Nat → Rl) (len : Nat) (t : Int) : offT off R len t = off + xOf R len (yearI (t + off)) (t + off) := nOf_x off R len _ _
set_option maxRecDepth 100000 in
set_option maxHeartbeats 4000000 in
/-- localOf, refused: no zone. -/
theorem localOf_bad (off t : Int) (a : Option Addr) (len cap : Nat) (R : Nat → Rl) (w : World) (hl : len ≤ 1000) (hR : RulesAt w.heap.size w a len R) (hz : ¬ ZoneIs off R len) :
    Calls Tryd.prog 46 #[zoneV off a len cap, .int .i64 t] w fun e w' => e = .returned (.tuple #[momV 0 0 0 0 0 0, .int .i64 0, .int .i64 70]) ∧ Below w.heap.size w w' := by
  have hb0 := (Below.refl _ w).alloc (Nat.le_refl _) (.cells #[.int .i64 off, .slice a len cap] 29)
  have hb1 := hb0.alloc hb0.size (.cells #[.int .i64 0, .int .i64 0, .int .i64 0, .int .i64 0, .int .i64 0, .int .i64 0] 112)
  have hg := heap_alloc_new (w.alloc (.cells #[.int .i64 off, .slice a len cap] 29)) (.cells #[.int .i64 0, .int .i64 0, .int .i64 0, .int .i64 0, .int .i64 0, .int .i64 0] 112)
  rw [World.size_alloc] at hg
  have H1 := Lib.hid (checkZ_any off a len cap R _ hl ((hR.next hb1).mono hb1.size))
  rw [zE_no hz] at H1
  have HB := Lib.hid hb1
  have HG := Lib.hid hg
  clear hb0 hb1 hg hz hR hl
  go_enter Tryd.func46, Tryd.ntmps46
  go_wp2_with fail
  refine H1.out.mono ?_
  rintro e X ⟨rfl, hB1⟩
  have hb := HB.out.trans (hB1.mono HB.out.size)
  have hg := (hB1.block (w.heap.size + 1) (Array.getElem?_eq_some_iff.1 HG.out).1).trans HG.out
  have a0 : X.cell? ⟨w.heap.size + 1, 0, none⟩ = some (.int .i64 0) := cell_of_row X _ 0 _ _ _ hg
  have a1 : X.cell? ⟨w.heap.size + 1, 1, none⟩ = some (.int .i64 0) := cell_of_row X _ 1 _ _ _ hg
  have a2 : X.cell? ⟨w.heap.size + 1, 2, none⟩ = some (.int .i64 0) := cell_of_row X _ 2 _ _ _ hg
  have a3 : X.cell? ⟨w.heap.size + 1, 3, none⟩ = some (.int .i64 0) := cell_of_row X _ 3 _ _ _ hg
  have a4 : X.cell? ⟨w.heap.size + 1, 4, none⟩ = some (.int .i64 0) := cell_of_row X _ 4 _ _ _ hg
  have a5 : X.cell? ⟨w.heap.size + 1, 5, none⟩ = some (.int .i64 0) := cell_of_row X _ 5 _ _ _ hg
  have f0 := frozen_of_row X (w.heap.size + 1) 0 _ _ hg
  have f1 := frozen_of_row X (w.heap.size + 1) 1 _ _ hg
  have f2 := frozen_of_row X (w.heap.size + 1) 2 _ _ hg
  have f3 := frozen_of_row X (w.heap.size + 1) 3 _ _ hg
  have f4 := frozen_of_row X (w.heap.size + 1) 4 _ _ hg
  have f5 := frozen_of_row X (w.heap.size + 1) 5 _ _ hg
  have HBX := Lib.hid hb
  have HGX := Lib.hid hg
  clear hB1 hb hg HB HG H1
  go_wp2
  have hput := mom_put 0 0 0 0 0 0 HGX.out
  have hputB := mom_putB 0 0 0 0 0 0 HBX.out (Nat.le_succ w.heap.size)
  refine bodyPost_ret (results_localOf rfl rfl rfl hput) rfl ?_
  exact ⟨rfl, hputB⟩
set_option maxRecDepth 100000 in
set_option maxHeartbeats 4000000 in
/-- localOf, refused: no standard time. -/
theorem localOf_out (off t : Int) (a : Option Addr) (len cap : Nat) (R : Nat → Rl) (w : World) (ht : In64 t) (hR : RulesAt w.heap.size w a len R) (hz : ZoneIs off R len) (hs : ¬ (0 ≤ t + off ∧ t + off < 253402300800)) :
    Calls Tryd.prog 46 #[zoneV off a len cap, .int .i64 t] w fun e w' => e = .returned (.tuple #[momV 0 0 0 0 0 0, .int .i64 0, .int .i64 60]) ∧ Below w.heap.size w w' := by
  have hl : len ≤ 1000 := by have := hz.2.1; omega
  have hb0 := (Below.refl _ w).alloc (Nat.le_refl _) (.cells #[.int .i64 off, .slice a len cap] 29)
  have hb1 := hb0.alloc hb0.size (.cells #[.int .i64 0, .int .i64 0, .int .i64 0, .int .i64 0, .int .i64 0, .int .i64 0] 112)
  have hg := heap_alloc_new (w.alloc (.cells #[.int .i64 off, .slice a len cap] 29)) (.cells #[.int .i64 0, .int .i64 0, .int .i64 0, .int .i64 0, .int .i64 0, .int .i64 0] 112)
  have hgz := heap_old (heap_alloc_new w (.cells #[.int .i64 off, .slice a len cap] 29)) (.cells #[.int .i64 0, .int .i64 0, .int .i64 0, .int .i64 0, .int .i64 0, .int .i64 0] 112)
  rw [World.size_alloc] at hg
  have H1 := Lib.hid (checkZ_any off a len cap R _ hl ((hR.next hb1).mono hb1.size))
  rw [zE_yes hz] at H1
  have HB := Lib.hid hb1
  have HG := Lib.hid hg
  have HGZ := Lib.hid hgz
  have hoff := hz.1
  have hw : ¬ (0 ≤ wrap64 (t + off) ∧ wrap64 (t + off) < 253402300800) := by
    obtain ⟨q1, q2⟩ := ht; unfold wrap64; omega
  have H2 := Lib.hid (fun X => at_no (wrap64 (t + off)) hw X)
  clear hb0 hb1 hg hgz hz hR hl hw hs
  go_enter Tryd.func46, Tryd.ntmps46
  go_wp2_with fail
  refine H1.out.mono ?_
  rintro e X ⟨rfl, hB1⟩
  have hb := HB.out.trans (hB1.mono HB.out.size)
  have hg := (hB1.block (w.heap.size + 1) (Array.getElem?_eq_some_iff.1 HG.out).1).trans HG.out
  have hgz := (hB1.block w.heap.size (Array.getElem?_eq_some_iff.1 HGZ.out).1).trans HGZ.out
  have z0 : X.cell? ⟨w.heap.size, 0, none⟩ = some (.int .i64 off) := cell_of_row X _ 0 _ _ _ hgz
  have HBX := Lib.hid hb
  have HGX := Lib.hid hg
  clear hB1 hb hg HB HG H1 hgz HGZ
  go_wp2_with fail
  refine (H2.out _).mono ?_
  rintro e Y ⟨rfl, hB2⟩
  have hb := HBX.out.trans (hB2.mono HBX.out.size)
  have hg := (hB2.block (w.heap.size + 1) (Array.getElem?_eq_some_iff.1 HGX.out).1).trans HGX.out
  have hly : w.heap.size + 1 < Y.heap.size := (Array.getElem?_eq_some_iff.1 hg).1
  have a0 : Y.cell? ⟨w.heap.size + 1, 0, none⟩ = some (.int .i64 0) := cell_of_row Y _ 0 _ _ _ hg
  have a1 : Y.cell? ⟨w.heap.size + 1, 1, none⟩ = some (.int .i64 0) := cell_of_row Y _ 1 _ _ _ hg
  have a2 : Y.cell? ⟨w.heap.size + 1, 2, none⟩ = some (.int .i64 0) := cell_of_row Y _ 2 _ _ _ hg
  have a3 : Y.cell? ⟨w.heap.size + 1, 3, none⟩ = some (.int .i64 0) := cell_of_row Y _ 3 _ _ _ hg
  have a4 : Y.cell? ⟨w.heap.size + 1, 4, none⟩ = some (.int .i64 0) := cell_of_row Y _ 4 _ _ _ hg
  have a5 : Y.cell? ⟨w.heap.size + 1, 5, none⟩ = some (.int .i64 0) := cell_of_row Y _ 5 _ _ _ hg
  have f0 := frozen_of_row Y (w.heap.size + 1) 0 _ _ hg
  have f1 := frozen_of_row Y (w.heap.size + 1) 1 _ _ hg
  have f2 := frozen_of_row Y (w.heap.size + 1) 2 _ _ hg
  have f3 := frozen_of_row Y (w.heap.size + 1) 3 _ _ hg
  have f4 := frozen_of_row Y (w.heap.size + 1) 4 _ _ hg
  have f5 := frozen_of_row Y (w.heap.size + 1) 5 _ _ hg
  have HBY := Lib.hid hb
  have HGY := Lib.hid hg
  clear hB2 hb hg HBX HGX H2 z0
  go_wp2
  have hput := mom_put 0 0 0 0 0 0 HGY.out
  have hputB := mom_putB 0 0 0 0 0 0 HBY.out (Nat.le_succ w.heap.size)
  refine bodyPost_ret (results_localOf rfl rfl rfl (heap_old hput _)) rfl ?_
  exact ⟨rfl, hputB.alloc hputB.size _⟩
set_option maxRecDepth 100000 in
set_option maxHeartbeats 4000000 in
/-- localOf, past the standard time: by the moment of the local time, or none. -/
theorem localOf_walk (off t : Int) (a : Option Addr) (len cap : Nat) (R : Nat → Rl) (w : World) (hR : RulesAt w.heap.size w a len R) (hz : ZoneIs off R len) (s0 : 0 ≤ t + off) (s1 : t + off < 253402300800) (hT : Tabs w)
    (N : Int) (hN : N = xOf R len (yearI (t + off)) (t + off)) (u0 u1 u2 u3 u4 u5 E : Int)
    (HM : ∀ X, Tabs X → Calls Tryd.prog 67 #[.int .i64 (t + off + N)] X fun e w' => e = .returned (.tuple #[momV u0 u1 u2 u3 u4 u5, .int .i64 E]) ∧ Below X.heap.size X w')
    (hE : (E = 0) ∨ (E = 60 ∧ u0 = 0 ∧ u1 = 0 ∧ u2 = 0 ∧ u3 = 0 ∧ u4 = 0 ∧ u5 = 0)) :
    Calls Tryd.prog 46 #[zoneV off a len cap, .int .i64 t] w fun e w' => e = .returned (.tuple #[momV u0 u1 u2 u3 u4 u5, .int .i64 (if E = 0 then N else 0), .int .i64 E]) ∧ Below w.heap.size w w' := by
  have hl : len ≤ 1000 := by have := hz.2.1; omega
  have hb0 := (Below.refl _ w).alloc (Nat.le_refl _) (.cells #[.int .i64 off, .slice a len cap] 29)
  have hb1 := hb0.alloc hb0.size (.cells #[.int .i64 0, .int .i64 0, .int .i64 0, .int .i64 0, .int .i64 0, .int .i64 0] 112)
  have hg := heap_alloc_new (w.alloc (.cells #[.int .i64 off, .slice a len cap] 29)) (.cells #[.int .i64 0, .int .i64 0, .int .i64 0, .int .i64 0, .int .i64 0, .int .i64 0] 112)
  have hgz := heap_old (heap_alloc_new w (.cells #[.int .i64 off, .slice a len cap] 29)) (.cells #[.int .i64 0, .int .i64 0, .int .i64 0, .int .i64 0, .int .i64 0, .int .i64 0] 112)
  rw [World.size_alloc] at hg
  have H1 := Lib.hid (checkZ_any off a len cap R _ hl ((hR.next hb1).mono hb1.size))
  rw [zE_yes hz] at H1
  have HB := Lib.hid hb1
  have HG := Lib.hid hg
  have HGZ := Lib.hid hgz
  have hoff := hz.1
  obtain ⟨y, m, d, hd⟩ := date_exists ((t + off) / 86400) (by omega) (by omega)
  rw [yearI_is hd] at hN
  have hNb := xOf_bounds hz y (t + off)
  rw [← hN] at hNb
  have H2 := Lib.hid (fun X (hX : Below w.heap.size w X) => at_yes (t + off) s0 s1 y m d hd X (hT.next hX))
  have H3 := Lib.hid (fun X (hX : Below w.heap.size w X) => extraAt_any off a len cap R y (t + off) X ((hR.next hX).mono hX.size) hz (hT.next hX))
  rw [← hN] at H3
  have H4 := Lib.hid (fun X (hX : Below w.heap.size w X) => HM X (hT.next hX))
  have hEE : E = 0 ∨ E = 60 := by omega
  have HE := Lib.hid hE
  clear hb0 hb1 hg hgz hz hR hl hd hT HM hN hE
  go_enter Tryd.func46, Tryd.ntmps46
  go_wp2_with fail
  refine H1.out.mono ?_
  rintro e X ⟨rfl, hB1⟩
  have hb := HB.out.trans (hB1.mono HB.out.size)
  have hg := (hB1.block (w.heap.size + 1) (Array.getElem?_eq_some_iff.1 HG.out).1).trans HG.out
  have hgz := (hB1.block w.heap.size (Array.getElem?_eq_some_iff.1 HGZ.out).1).trans HGZ.out
  have z0 : X.cell? ⟨w.heap.size, 0, none⟩ = some (.int .i64 off) := cell_of_row X _ 0 _ _ _ hgz
  have HBX := Lib.hid hb
  have HGX := Lib.hid hg
  have HZX := Lib.hid hgz
  clear hB1 hb hg HB HG H1 hgz HGZ
  go_wp2_with fail
  refine (H2.out _ HBX.out).mono ?_
  rintro e Y ⟨rfl, hB2⟩
  have hb := HBX.out.trans (hB2.mono HBX.out.size)
  have hg := (hB2.block (w.heap.size + 1) (Array.getElem?_eq_some_iff.1 HGX.out).1).trans HGX.out
  have hgz := (hB2.block w.heap.size (Array.getElem?_eq_some_iff.1 HZX.out).1).trans HZX.out
  have hly : w.heap.size + 1 < Y.heap.size := (Array.getElem?_eq_some_iff.1 hg).1
  have hly0 : w.heap.size < Y.heap.size := (Array.getElem?_eq_some_iff.1 hgz).1
  obtain ⟨sm, hsm⟩ : ∃ o : Obj, o = .cells #[.int .i64 y, .int .i64 m, .int .i64 d, .int .i64 ((t + off) % 86400 / 3600), .int .i64 ((t + off) % 3600 / 60), .int .i64 ((t + off) % 60)] 112 := ⟨_, rfl⟩
  have hby := hb.alloc hb.size sm
  have hgy := heap_old hg sm
  have hzy := heap_old hgz sm
  rw [hsm] at hby hgy hzy
  have z0 : Y.cell? ⟨w.heap.size, 0, none⟩ = some (.int .i64 off) := cell_of_row Y _ 0 _ _ _ hgz
  have z1 : Y.cell? ⟨w.heap.size, 1, none⟩ = some (.slice a len cap) := cell_of_row Y _ 1 _ _ _ hgz
  have HBY := Lib.hid hby
  have HGY := Lib.hid hgy
  have HZY := Lib.hid hzy
  clear hB2 hb hg hgz hby hgy hzy HBX HGX HZX H2 hsm
  go_wp2_with fail
  refine (H3.out _ HBY.out).mono ?_
  rintro e V ⟨rfl, hB3⟩
  have hb := HBY.out.trans (hB3.mono HBY.out.size)
  have hg := (hB3.block (w.heap.size + 1) (Array.getElem?_eq_some_iff.1 HGY.out).1).trans HGY.out
  have HBV := Lib.hid hb
  have HGV := Lib.hid hg
  clear hB3 hb hg HBY HGY HZY H3 z0 z1
  go_wp2_with fail
  refine (H4.out _ HBV.out).mono ?_
  rintro e U ⟨rfl, hB4⟩
  have hb := HBV.out.trans (hB4.mono HBV.out.size)
  have hg := (hB4.block (w.heap.size + 1) (Array.getElem?_eq_some_iff.1 HGV.out).1).trans HGV.out
  have a0 : U.cell? ⟨w.heap.size + 1, 0, none⟩ = some (.int .i64 0) := cell_of_row U _ 0 _ _ _ hg
  have a1 : U.cell? ⟨w.heap.size + 1, 1, none⟩ = some (.int .i64 0) := cell_of_row U _ 1 _ _ _ hg
  have a2 : U.cell? ⟨w.heap.size + 1, 2, none⟩ = some (.int .i64 0) := cell_of_row U _ 2 _ _ _ hg
  have a3 : U.cell? ⟨w.heap.size + 1, 3, none⟩ = some (.int .i64 0) := cell_of_row U _ 3 _ _ _ hg
  have a4 : U.cell? ⟨w.heap.size + 1, 4, none⟩ = some (.int .i64 0) := cell_of_row U _ 4 _ _ _ hg
  have a5 : U.cell? ⟨w.heap.size + 1, 5, none⟩ = some (.int .i64 0) := cell_of_row U _ 5 _ _ _ hg
  have f0 := frozen_of_row U (w.heap.size + 1) 0 _ _ hg
  have f1 := frozen_of_row U (w.heap.size + 1) 1 _ _ hg
  have f2 := frozen_of_row U (w.heap.size + 1) 2 _ _ hg
  have f3 := frozen_of_row U (w.heap.size + 1) 3 _ _ hg
  have f4 := frozen_of_row U (w.heap.size + 1) 4 _ _ hg
  have f5 := frozen_of_row U (w.heap.size + 1) 5 _ _ hg
  have HBU := Lib.hid hb
  have HGU := Lib.hid hg
  clear hB4 hb hg HBV HGV H4
  have hput := mom_put u0 u1 u2 u3 u4 u5 HGU.out
  have hputB := mom_putB u0 u1 u2 u3 u4 u5 HBU.out (Nat.le_succ w.heap.size)
  go_upto_region 9 with fail
  obtain ⟨V8, hV8⟩ : ∃ X, X = ((((((U.setCell ⟨w.heap.size + 1, 0, none⟩ (.int .i64 u0)).setCell ⟨w.heap.size + 1, 1, none⟩ (.int .i64 u1)).setCell ⟨w.heap.size + 1, 2, none⟩ (.int .i64 u2)).setCell ⟨w.heap.size + 1, 3, none⟩ (.int .i64 u3)).setCell ⟨w.heap.size + 1, 4, none⟩ (.int .i64 u4)).setCell ⟨w.heap.size + 1, 5, none⟩ (.int .i64 u5)) := ⟨_, rfl⟩
  rw [← hV8] at hput hputB ⊢
  have b0 : V8.cell? ⟨w.heap.size + 1, 0, none⟩ = some (.int .i64 u0) := cell_of_row V8 _ 0 _ _ _ hput
  have b1 : V8.cell? ⟨w.heap.size + 1, 1, none⟩ = some (.int .i64 u1) := cell_of_row V8 _ 1 _ _ _ hput
  have b2 : V8.cell? ⟨w.heap.size + 1, 2, none⟩ = some (.int .i64 u2) := cell_of_row V8 _ 2 _ _ _ hput
  have b3 : V8.cell? ⟨w.heap.size + 1, 3, none⟩ = some (.int .i64 u3) := cell_of_row V8 _ 3 _ _ _ hput
  have b4 : V8.cell? ⟨w.heap.size + 1, 4, none⟩ = some (.int .i64 u4) := cell_of_row V8 _ 4 _ _ _ hput
  have b5 : V8.cell? ⟨w.heap.size + 1, 5, none⟩ = some (.int .i64 u5) := cell_of_row V8 _ 5 _ _ _ hput
  have e0 := frozen_of_row V8 (w.heap.size + 1) 0 _ _ hput
  have e1 := frozen_of_row V8 (w.heap.size + 1) 1 _ _ hput
  have e2 := frozen_of_row V8 (w.heap.size + 1) 2 _ _ hput
  have e3 := frozen_of_row V8 (w.heap.size + 1) 3 _ _ hput
  have e4 := frozen_of_row V8 (w.heap.size + 1) 4 _ _ hput
  have e5 := frozen_of_row V8 (w.heap.size + 1) 5 _ _ hput
  have HP := Lib.hid hput
  have HQ := Lib.hid hputB
  have hput2 := mom_put 0 0 0 0 0 0 hput
  have hputB2 := mom_putB 0 0 0 0 0 0 hputB (Nat.le_succ w.heap.size)
  have hput3 := mom_put u0 u1 u2 u3 u4 u5 hput
  have hputB3 := mom_putB u0 u1 u2 u3 u4 u5 hputB (Nat.le_succ w.heap.size)
  have HP2 := Lib.hid hput2
  have HP3 := Lib.hid hput3
  have HQ2 := Lib.hid hputB2
  have HQ3 := Lib.hid hputB3
  clear hput hputB hput2 hputB2 hput3 hputB3 hV8 HGU HBU
  rcases HE.out with rfl | ⟨rfl, hu⟩
  · clear hEE HE
    go_wp2
    refine bodyPost_ret (results_localOf rfl rfl rfl HP3.out) rfl ?_
    exact ⟨rfl, HQ3.out⟩
  · have HU := Lib.hid hu
    clear hEE HE hu
    obtain ⟨rfl, rfl, rfl, rfl, rfl, rfl⟩ := HU.out
    clear a0 a1 a2 a3 a4 a5 f0 f1 f2 f3 f4 f5
    go_wp2
    refine bodyPost_ret (results_localOf rfl rfl rfl HP2.out) rfl ?_
    exact ⟨rfl, HQ2.out⟩
set_option maxRecDepth 100000 in
/-- localOf of a zone: the local time, and by how much it is ahead of the standard time; or ErrTime. -/
theorem localOf_yes (off t : Int) (a : Option Addr) (len cap : Nat) (R : Nat → Rl) (w : World) (hR : RulesAt w.heap.size w a len R) (hz : ZoneIs off R len) (hT : Tabs w) (h : OffIs off R len t)
    (L : Int) (hL : L = t + offT off R len t) (y m d : Int) (hd : IsDate (L / 86400) y m d) :
    Calls Tryd.prog 46 #[zoneV off a len cap, .int .i64 t] w fun e w' => e = .returned (.tuple #[momV y m d (L % 86400 / 3600) (L % 3600 / 60) (L % 60), .int .i64 (xOf R len (yearI (t + off)) (t + off)), .int .i64 0]) ∧ Below w.heap.size w w' := by
  obtain ⟨⟨s0, s1⟩, h2⟩ := h
  have hx := offT_x off R len t
  have hb := xOf_bounds hz (yearI (t + off)) (t + off)
  have h3 : t + offT off R len t < 253402300800 := h2
  have hN : t + off + xOf R len (yearI (t + off)) (t + off) = L := by omega
  have := localOf_walk off t a len cap R w hR hz s0 s1 hT _ rfl y m d (L % 86400 / 3600) (L % 3600 / 60) (L % 60) 0 (fun X hX => by rw [hN]; exact at_yes L (by omega) (by omega) y m d hd X hX) (.inl rfl)
  rw [if_pos rfl] at this
  exact this
theorem localOf_no (off t : Int) (a : Option Addr) (len cap : Nat) (R : Nat → Rl) (w : World) (ht : In64 t) (hR : RulesAt w.heap.size w a len R) (hz : ZoneIs off R len) (hT : Tabs w) (h : ¬ OffIs off R len t) :
    Calls Tryd.prog 46 #[zoneV off a len cap, .int .i64 t] w fun e w' => e = .returned (.tuple #[momV 0 0 0 0 0 0, .int .i64 0, .int .i64 60]) ∧ Below w.heap.size w w' := by
  by_cases hs : 0 ≤ t + off ∧ t + off < 253402300800
  · have hx := offT_x off R len t
    have h3 : ¬ (t + offT off R len t < 253402300800) := fun q => h ⟨hs, q⟩
    have := localOf_walk off t a len cap R w hR hz hs.1 hs.2 hT _ rfl 0 0 0 0 0 0 60 (fun X hX => at_no _ (by omega) X) (.inr ⟨rfl, rfl, rfl, rfl, rfl, rfl, rfl⟩)
    rw [if_neg (by decide)] at this
    exact this
  · exact localOf_out off t a len cap R w ht hR hz hs
end Go.Proofs.YtbffmobjiiicoaaDoor
end
section
/- Contracts of the program's Edges, Offset, Local, Day. -/
set_option linter.unusedVariables false
set_option linter.unusedSimpArgs false
namespace Go.Proofs.YtbffmobjiiicoaaDoor
open Go.RowKit Go.Shelf
theorem at_bounds {y m w n t : Int} (hy : 1970 ≤ y ∧ y ≤ 9999) (h : ChIs m w n t) : 0 ≤ atV y m w n t ∧ atV y m w n t < 253402300800 := by
  have hM := nth_may (nth_is_of hy h)
  have hb := day_bounds hM
  obtain ⟨_, _, _, h4⟩ := h
  unfold atV
  omega
set_option maxRecDepth 100000 in
set_option maxHeartbeats 4000000 in
/-- Day, refused. -/
theorem dayZ_no (off t : Int) (a : Option Addr) (len cap : Nat) (R : Nat → Rl) (w : World) (hR : RulesAt w.heap.size w a len R) (u0 u1 u2 u3 u4 u5 N E : Int)
    (HL : ∀ X, Below w.heap.size w X → Calls Tryd.prog 46 #[zoneV off a len cap, .int .i64 t] X fun e w' => e = .returned (.tuple #[momV u0 u1 u2 u3 u4 u5, .int .i64 N, .int .i64 E]) ∧ Below X.heap.size X w')
    (hE : E = 60 ∨ E = 70) :
    Calls Tryd.prog 23 #[zoneV off a len cap, .int .i64 t] w fun e w' => e = .returned (.tuple #[.int .i64 0, .int .i64 0, .int .i64 E]) ∧ Below w.heap.size w w' := by
  have hb0 := (Below.refl _ w).alloc (Nat.le_refl _) (.cells #[.int .i64 off, .slice a len cap] 29)
  have H1 := Lib.hid (HL _ hb0)
  have HB := Lib.hid hb0
  clear hb0 hR HL
  go_enter Tryd.func23, Tryd.ntmps23
  go_wp2_with fail
  refine H1.out.mono ?_
  rintro e X ⟨rfl, hB1⟩
  have hb1 := HB.out.trans (hB1.mono HB.out.size)
  have HBX := Lib.hid (hb1.alloc hb1.size (.cells #[.int .i64 u0, .int .i64 u1, .int .i64 u2, .int .i64 u3, .int .i64 u4, .int .i64 u5] 112))
  clear hB1 hb1 H1 HB
  rcases hE with rfl | rfl
  all_goals
    go_wp2
    go_ret3
    exact ⟨rfl, HBX.out⟩
set_option maxRecDepth 100000 in
set_option maxHeartbeats 4000000 in
theorem dayZ_walk (off t : Int) (a : Option Addr) (len cap : Nat) (R : Nat → Rl) (w : World) (hR : RulesAt w.heap.size w a len R) (hT : Tabs w) (u0 u1 u2 u3 u4 u5 N D : Int)
    (HL : ∀ X, Below w.heap.size w X → Calls Tryd.prog 46 #[zoneV off a len cap, .int .i64 t] X fun e w' => e = .returned (.tuple #[momV u0 u1 u2 u3 u4 u5, .int .i64 N, .int .i64 0]) ∧ Below X.heap.size X w')
    (hD : IsDate D u0 u1 u2) (h3 : 0 ≤ u3 ∧ u3 < 24) (h4 : 0 ≤ u4 ∧ u4 < 60) :
    Calls Tryd.prog 23 #[zoneV off a len cap, .int .i64 t] w fun e w' => e = .returned (.tuple #[.int .i64 D, .int .i64 (u3 * 60 + u4), .int .i64 0]) ∧ Below w.heap.size w w' := by
  have hb0 := (Below.refl _ w).alloc (Nat.le_refl _) (.cells #[.int .i64 off, .slice a len cap] 29)
  have H1 := Lib.hid (HL _ hb0)
  have HB := Lib.hid hb0
  have H2 := Lib.hid (fun X (hX : Below w.heap.size w X) => day_is D u0 u1 u2 hD X (hT.next hX))
  have HW1 := Lib.hid (show IntKind.i64.wrap (u3 * 60) = u3 * 60 from by simp only [IntKind.wrap_i64, wrap64]; omega)
  have HW2 := Lib.hid (show IntKind.i64.wrap (u3 * 60 + u4) = u3 * 60 + u4 from by simp only [IntKind.wrap_i64, wrap64]; omega)
  clear hb0 hR HL hD hT
  go_enter Tryd.func23, Tryd.ntmps23
  go_wp2_with fail
  refine H1.out.mono ?_
  rintro e X ⟨rfl, hB1⟩
  have hb1 := HB.out.trans (hB1.mono HB.out.size)
  have HBX := Lib.hid (hb1.alloc hb1.size (.cells #[.int .i64 u0, .int .i64 u1, .int .i64 u2, .int .i64 u3, .int .i64 u4, .int .i64 u5] 112))
  have HGX := Lib.hid (heap_alloc_new X (.cells #[.int .i64 u0, .int .i64 u1, .int .i64 u2, .int .i64 u3, .int .i64 u4, .int .i64 u5] 112))
  clear hB1 hb1 H1 HB
  go_wp2_with fail
  refine (H2.out _ HBX.out).mono ?_
  rintro e Y ⟨rfl, hB2⟩
  have hby := HBX.out.trans (hB2.mono HBX.out.size)
  have hgy := (hB2.block X.heap.size (Array.getElem?_eq_some_iff.1 HGX.out).1).trans HGX.out
  have s3 : Y.cell? ⟨X.heap.size, 3, none⟩ = some (.int .i64 u3) := cell_of_row Y _ 3 _ _ _ hgy
  have s4 : Y.cell? ⟨X.heap.size, 4, none⟩ = some (.int .i64 u4) := cell_of_row Y _ 4 _ _ _ hgy
  have HBY := Lib.hid hby.drew
  clear hB2 hby hgy HBX HGX H2
  go_wp2_with fail
  go_region_held3 (fun w' => w'.cell? ⟨X.heap.size, 3, none⟩ = some (.int .i64 u3) ∧ w'.cell? ⟨X.heap.size, 4, none⟩ = some (.int .i64 u4))
    (first | exact ⟨s3, s4⟩ | go_keep)
    (first | fail)
  all_goals
    rw [HW1.out, HW2.out]
    go_wp2
    go_ret3
    exact ⟨rfl, HBY.out⟩
end Go.Proofs.YtbffmobjiiicoaaDoor
end
section
/- The statements' own small functions: europe, when, alive; Local and Offset, whole. -/
set_option linter.unusedVariables false
set_option linter.unusedSimpArgs false
namespace Go.Proofs.YtbffmobjiiicoaaDoor
open Go.RowKit Go.Shelf
section
variable (off t : Int) (a : Option Addr) (len cap : Nat) (R : Nat → Rl) (w : World)
end
def eurR : Rl := ⟨1996, 9999, 3, 7, -1, 120, 10, 7, -1, 120, 3600⟩
def eur (_ : Nat) : Rl := eurR
theorem eur_is : ZoneIs 3600 eur 1 := by decide +kernel
theorem eur_rules {W : World} {b : Nat} (h : W.heap[b]? = some (.cells #[.int .i64 1996, .int .i64 9999, .int .i64 3, .int .i64 7, .int .i64 (-1), .int .i64 120, .int .i64 10, .int .i64 7, .int .i64 (-1), .int .i64 120, .int .i64 3600] 129 (0, 0))) :
    RulesAt W.heap.size W (some ⟨b, 0, none⟩) 1 eur := by
  intro i hi
  obtain rfl : i = 0 := by omega
  exact ⟨b, 0, rfl, (Array.getElem?_eq_some_iff.1 h).1, cells_rule (r := eurR) h⟩
theorem alive_t1 : OffIs 3600 eur 1 (secOf 2026 3 29 0 59 59) ∧ offT 3600 eur 1 (secOf 2026 3 29 0 59 59) = 3600 ∧ xOf eur 1 (yearI (secOf 2026 3 29 0 59 59 + 3600)) (secOf 2026 3 29 0 59 59 + 3600) = 0 := by decide +kernel
theorem alive_t2 : OffIs 3600 eur 1 (secOf 2026 3 29 1 0 0) ∧ offT 3600 eur 1 (secOf 2026 3 29 1 0 0) = 7200 ∧ xOf eur 1 (yearI (secOf 2026 3 29 1 0 0 + 3600)) (secOf 2026 3 29 1 0 0 + 3600) = 3600 := by decide +kernel
theorem alive_d1 : IsDate ((secOf 2026 3 29 0 59 59 + 3600) / 86400) 2026 3 29 ∧ (secOf 2026 3 29 0 59 59 + 3600) % 86400 / 3600 = 1 ∧ (secOf 2026 3 29 0 59 59 + 3600) % 3600 / 60 = 59 ∧ (secOf 2026 3 29 0 59 59 + 3600) % 60 = 59 := by decide +kernel
theorem alive_d2 : IsDate ((secOf 2026 3 29 1 0 0 + 7200) / 86400) 2026 3 29 ∧ (secOf 2026 3 29 1 0 0 + 7200) % 86400 / 3600 = 3 ∧ (secOf 2026 3 29 1 0 0 + 7200) % 3600 / 60 = 0 ∧ (secOf 2026 3 29 1 0 0 + 7200) % 60 = 0 := by decide +kernel
end Go.Proofs.YtbffmobjiiicoaaDoor
end
