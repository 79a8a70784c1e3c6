/- The document's Local. -/
import Derived.Test.YtbffmobjiiicoaaGreatDoorTRefC
import Derived.Test.YtbffmobjiiicoaaGreatDoorTAt
import Derived.Deep.RegionHeld3
import Derived.IntWalk
set_option linter.unusedVariables false
set_option linter.unusedSimpArgs false
namespace Go.Proofs.YtbffmobjiiicoaaGreatDoor
open Go.RowKit Go.Shelf
structure Box2 (W : World) (n : Nat) (x : Ta) : Prop where
  z0 : W.cell? ⟨n, 0, none⟩ = some (.int .i64 x.off)
  z1 : W.cell? ⟨n, 1, none⟩ = some (.slice x.za x.zl x.zc)
  c0 : W.cell? ⟨n + 1, 0, none⟩ = some (.slice x.ha x.hl x.hc)
  c1 : W.cell? ⟨n + 1, 1, none⟩ = some (.slice x.sa x.sl x.sc)
  sz : n + 1 < W.heap.size
theorem Box2.next {W X : World} {n : Nat} {x : Ta} (h : Box2 W n x) (hB : Below W.heap.size W X) : Box2 X n x :=
  ⟨(hB.cell (p := ⟨n, 0, none⟩) (by have := h.sz; show n < W.heap.size; omega)).trans h.z0, (hB.cell (p := ⟨n, 1, none⟩) (by have := h.sz; show n < W.heap.size; omega)).trans h.z1,
    (hB.cell (p := ⟨n + 1, 0, none⟩) h.sz).trans h.c0, (hB.cell (p := ⟨n + 1, 1, none⟩) h.sz).trans h.c1, Nat.lt_of_lt_of_le h.sz hB.size⟩
theorem Box2.new (w : World) (x : Ta) : Box2 ((w.alloc (.cells #[.int .i64 x.off, .slice x.za x.zl x.zc] 24)).alloc (.cells #[.slice x.ha x.hl x.hc, .slice x.sa x.sl x.sc] 28)) w.heap.size x ∧ Below w.heap.size w ((w.alloc (.cells #[.int .i64 x.off, .slice x.za x.zl x.zc] 24)).alloc (.cells #[.slice x.ha x.hl x.hc, .slice x.sa x.sl x.sc] 28)) := by
  have a1 := heap_alloc_new w (.cells #[.int .i64 x.off, .slice x.za x.zl x.zc] 24)
  have s1 : (w.alloc (.cells #[.int .i64 x.off, .slice x.za x.zl x.zc] 24)).heap.size = w.heap.size + 1 := World.size_alloc _ _
  generalize hW1 : w.alloc (.cells #[.int .i64 x.off, .slice x.za x.zl x.zc] 24) = W1 at *
  have a2 := heap_alloc_new W1 (.cells #[.slice x.ha x.hl x.hc, .slice x.sa x.sl x.sc] 28)
  have s2 : (W1.alloc (.cells #[.slice x.ha x.hl x.hc, .slice x.sa x.sl x.sc] 28)).heap.size = W1.heap.size + 1 := World.size_alloc _ _
  have a12 := heap_old a1 (.cells #[.slice x.ha x.hl x.hc, .slice x.sa x.sl x.sc] 28)
  have hB2 := ((Below.refl w.heap.size w).alloc (Nat.le_refl _) (.cells #[.int .i64 x.off, .slice x.za x.zl x.zc] 24))
  rw [hW1] at hB2
  have hB3 := hB2.alloc (by omega) (.cells #[.slice x.ha x.hl x.hc, .slice x.sa x.sl x.sc] 28)
  rw [s1] at a2
  exact ⟨⟨cell_of_row _ _ 0 _ _ _ a12, cell_of_row _ _ 1 _ _ _ a12, cell_of_row _ _ 0 _ _ _ a2, cell_of_row _ _ 1 _ _ _ a2, by rw [s2]; omega⟩, hB3⟩
section
variable (x : Ta) (t : Int) (w : World) (hA : TarAt w.heap.size w x)
include hA
theorem roff_yes (hz : ZoneIs x.off x.R x.zl) (h : OffT x t) : Calls Tryz.prog 32 #[zoneV x.off x.za x.zl x.zc, .int .i64 t] w fun e w' => e = .returned (.tuple #[.int .i64 (offT x.off x.R x.zl t), .int .i64 0]) ∧ Below w.heap.size w w' := by
  rcases roffset_any x.off t x.za x.zl x.zc x.R w hA.z hz with ⟨_, k⟩ | ⟨q, _⟩
  · exact k
  · exact absurd h q
theorem roff_no (hz : ZoneIs x.off x.R x.zl) (h : ¬ OffT x t) : Calls Tryz.prog 32 #[zoneV x.off x.za x.zl x.zc, .int .i64 t] w fun e w' => e = .returned (.tuple #[.int .i64 0, .int .i64 60]) ∧ Below w.heap.size w w' := by
  rcases roffset_any x.off t x.za x.zl x.zc x.R w hA.z hz with ⟨q, _⟩ | ⟨_, k⟩
  · exact absurd q h
  · exact k
theorem rlocal_no (hx : TarIs x) (h : ¬ OffT x t) :
    Calls Tryz.prog 9 #[zoneV x.off x.za x.zl x.zc, calVx x, .int .i64 t] w fun e w' => e = .returned (.tuple #[.int .i64 0, .int .i64 0, .int .i64 0, .int .i64 60]) ∧ Below w.heap.size w w' := by
  obtain ⟨n2, hb0⟩ := Box2.new w x
  have H1 := Lib.hid (roff_no x t _ (hA.up hb0) hx.1 h)
  have HB := Lib.hid hb0
  obtain ⟨z0, z1, c0, c1, sz⟩ := n2
  clear hA hx h hb0
  go_enter Tryz.func9, Tryz.ntmps9
  go_wp2_with fail
  refine H1.out.mono ?_
  rintro e w1 ⟨rfl, hB⟩
  go_wp2
  refine bodyPost_ret (results_tmp4 rfl _ _ _) rfl ?_
  exact ⟨rfl, HB.out.trans (hB.mono HB.out.size)⟩
set_option maxRecDepth 20000 in
set_option maxHeartbeats 4000000 in
theorem rlocal_yes (hx : TarIs x) (h : OffT x t) :
    Calls Tryz.prog 9 #[zoneV x.off x.za x.zl x.zc, calVx x, .int .i64 t] w fun e w' => (∃ s k mi, LocIs x t s k mi ∧ e = .returned (.tuple #[.int .i64 s, .int .i64 k, .int .i64 mi, .int .i64 0])) ∧ Below w.heap.size w w' := by
  obtain ⟨n2, hb0⟩ := Box2.new w x
  have H1 := Lib.hid (roff_yes x t _ (hA.up hb0) hx.1 h)
  obtain ⟨b1, b2⟩ := loc_bounds hx.1 h
  obtain ⟨y, m, d, hd⟩ := date_exists (dayT x t) (by unfold dayT; omega) (by unfold dayT; omega)
  have HS := Lib.hid (fun W (hW : Below w.heap.size w W) => H8.rSeason_any x.ha x.hl x.hc x.sa x.sl x.sc x.S (dayT x t) y m d hd W (hA.up hW).s hx.2.1.2.1 hx.2.1.2.2.2.1)
  have HK := Lib.hid (fun W (hW : Below w.heap.size w W) => H8.rKind_any x.ha x.hl x.hc x.sa x.sl x.sc x.H (dayT x t) y m d hd hx.2.1.2.2.1 W (hA.up hW).h hx.2.1.1)
  have HLI := Lib.hid (fun s (q : H8.SeaIs x.S x.sl (H8.bgn m d) s) => (show LocIs x t s (H8.kindB (dayT x t) (decide (dayT x t ∈ H8.hds x.H y x.hl))) (minT x t) from ⟨y, m, d, hd, q, rfl, rfl⟩))
  have HB := Lib.hid hb0
  have HX := Lib.hid n2
  have ot := offT_x x.off x.R x.zl t
  have oh := id h
  have hof : offT x.off x.R x.zl t ≤ 100000 ∧ -100000 ≤ offT x.off x.R x.zl t := by
    have q := xOf_bounds hx.1 (yearI (t + x.off)) (t + x.off)
    have o0 := hx.1.1.1
    have o1 := hx.1.1.2
    omega
  have hsum : t + offT x.off x.R x.zl t = locT x t := rfl
  generalize offT x.off x.R x.zl t = of at *
  have wl : IntKind.i64.wrap (t + of) = locT x t := by rw [hsum]; exact IntWalk.i64_in _ (by omega)
  have wl2 : wrap64 (t + of) = locT x t := by rw [hsum]; unfold wrap64; omega
  have hdy : dayT x t = locT x t / 86400 := rfl
  have hmi : minT x t = locT x t % 86400 / 60 := rfl
  have dq : (locT x t).tdiv 86400 = dayT x t := by rw [hdy, Int.tdiv_eq_ediv_of_nonneg b1]
  have dr : ((locT x t).tmod 86400).tdiv 60 = minT x t := by rw [hmi, Int.tmod_eq_emod_of_nonneg b1, Int.tdiv_eq_ediv_of_nonneg (by omega)]
  have DM := Lib.hid (show 0 ≤ dayT x t ∧ dayT x t ≤ 2932897 ∧ 0 ≤ minT x t ∧ minT x t < 1440 by omega)
  have FX := Lib.hid (And.intro wl (And.intro wl2 (And.intro dq (And.intro dr (And.intro b1 b2)))))
  clear hA hx h hb0 hd n2 ot oh hof hsum wl wl2 hdy hmi dq dr
  go_enter Tryz.func9, Tryz.ntmps9
  obtain ⟨z0, z1, c0, c1, sz⟩ := HX.out
  go_wp2_with fail
  refine H1.out.mono ?_
  rintro e w1 ⟨rfl, hB⟩
  have HX1 := Lib.hid (HX.out.next hB)
  have HB1 := Lib.hid (HB.out.trans (hB.mono HB.out.size))
  clear z0 z1 c0 c1 sz hB
  obtain ⟨e1, e2, e3, e4, b1, b2⟩ := FX.out
  go_wp2_with fail
  have wd : wrap64 (dayT x t) = dayT x t := by have := DM.out; unfold wrap64; omega
  rw [wd]
  have wm : IntKind.i64.wrap (minT x t) = minT x t := IntWalk.i64_in _ (by have := DM.out; omega)
  have wr1 : IntKind.i64.wrap ((locT x t).tmod 86400) = (locT x t).tmod 86400 := IntWalk.i64_in _ (by rw [Int.tmod_eq_emod_of_nonneg b1]; omega)
  have WW := Lib.hid (And.intro wm wr1)
  clear wd e1 e2 e3 b1 b2 wm wr1
  generalize H8.kindB (dayT x t) (decide (dayT x t ∈ H8.hds x.H y x.hl)) = kd at *
  obtain ⟨mi, hmi⟩ : ∃ mi, mi = minT x t := ⟨_, rfl⟩
  rw [← hmi] at e4 HLI WW
  obtain ⟨lc, hlc⟩ : ∃ lc, lc = locT x t := ⟨_, rfl⟩
  rw [← hlc] at e4 WW
  rw [← hlc]
  obtain ⟨dy, hdy⟩ : ∃ dy, dy = dayT x t := ⟨_, rfl⟩
  rw [← hdy] at HS HK
  rw [← hdy]
  have q1 : w1.drew.cell? ⟨w.heap.size + 1, 0, none⟩ = some (.slice x.ha x.hl x.hc) ∧ w1.drew.cell? ⟨w.heap.size + 1, 1, none⟩ = some (.slice x.sa x.sl x.sc) := ⟨HX1.out.c0, HX1.out.c1⟩
  have HC1 := Lib.hid (HS.out w1.drew HB1.out.drew)
  obtain ⟨w1m, w1r⟩ := WW.out
  clear hmi hlc hdy DM FX WW H1 HX HB
  go_region_held3 (fun w' => w'.cell? ⟨w.heap.size + 1, 0, none⟩ = some (.slice x.ha x.hl x.hc) ∧ w'.cell? ⟨w.heap.size + 1, 1, none⟩ = some (.slice x.sa x.sl x.sc))
    (first | (with_reducible exact q1) | (with_reducible exact q2) | (with_reducible exact q3) | go_keep)
    (first
      | (go_at_call 33; ((with_reducible refine HC1.out.mono ?_); rintro e w2 ⟨⟨s, hs, rfl⟩, hB2⟩; have HSI := Lib.hid hs; have q2 : w2.cell? ⟨w.heap.size + 1, 0, none⟩ = some (.slice x.ha x.hl x.hc) ∧ w2.cell? ⟨w.heap.size + 1, 1, none⟩ = some (.slice x.sa x.sl x.sc) := ⟨(hB2.cell (p := ⟨w.heap.size + 1, 0, none⟩) HX1.out.sz).trans HX1.out.c0, (hB2.cell (p := ⟨w.heap.size + 1, 1, none⟩) HX1.out.sz).trans HX1.out.c1⟩; have HS2 := Lib.hid (Nat.lt_of_lt_of_le HX1.out.sz hB2.size); have HB2 := Lib.hid (HB1.out.drew.trans (hB2.mono HB1.out.drew.size)); clear hs hB2))
      | (go_at_call 34; ((with_reducible refine (HK.out _ HB2.out).mono ?_); rintro e w3 ⟨rfl, hB3⟩; have q3 : w3.cell? ⟨w.heap.size + 1, 0, none⟩ = some (.slice x.ha x.hl x.hc) ∧ w3.cell? ⟨w.heap.size + 1, 1, none⟩ = some (.slice x.sa x.sl x.sc) := ⟨(hB3.cell (p := ⟨w.heap.size + 1, 0, none⟩) HS2.out).trans q2.1, (hB3.cell (p := ⟨w.heap.size + 1, 1, none⟩) HS2.out).trans q2.2⟩; have HB3 := Lib.hid (HB2.out.trans (hB3.mono HB2.out.size)); clear hB3)))
  all_goals
    rename_i hHeld
    clear hHeld q1 q2 q3
    go_wp2
    refine bodyPost_ret (results_tmp4 rfl _ _ _) rfl ?_
    exact ⟨⟨s, kd, mi, HLI.out s HSI.out, rfl⟩, HB3.out⟩
end
end Go.Proofs.YtbffmobjiiicoaaGreatDoor
