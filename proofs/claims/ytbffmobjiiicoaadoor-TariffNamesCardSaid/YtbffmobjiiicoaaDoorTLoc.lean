/- The program's Local. -/
import Derived.Test.YtbffmobjiiicoaaDoorTChkW
set_option linter.unusedVariables false
set_option linter.unusedSimpArgs false
namespace Go.Proofs.YtbffmobjiiicoaaDoor
open Go.RowKit Go.Shelf
theorem results_tmp4 {fn : Func} {t u v x : Tmp} (h : fn.results = #[.tmp t, .tmp u, .tmp v, .tmp x]) (tmps : Array Value) (P : Program) (w : World) :
    (results fn tmps).run P w = .ok (.tuple #[tmps.getD t undef, tmps.getD u undef, tmps.getD v undef, tmps.getD x undef]) w := by
  simp [results, h]
theorem tcheck_any (x : Ta) (w : World) (hA : TarAt w.heap.size w x) (hL : TarLen x) (hT : Tabs w) :
    Calls Tryd.prog 11 #[tarV x] w fun e w' => e = .returned (.int .i64 (tarE x)) ∧ Below w.heap.size w w' := by
  refine tcheck_walk x w hA hL hT _ _ _ _ _ rfl rfl rfl rfl rfl (tarE x) ?_
  unfold tarE
  generalize zE x.off x.R x.zl = E1
  generalize H8.calE x.H x.hl x.S x.sl = E2
  generalize B9.tErr x.P x.pl x.Q x.rl = E3
  generalize V10.tErr x.l = E4
  generalize pE x.l = E5
  unfold firstE firstE firstE firstE firstE firstE
  by_cases h1 : E1 = 0
  · by_cases h2 : E2 = 0
    · by_cases h3 : E3 = 0
      · by_cases h4 : E4 = 0
        · by_cases h5 : E5 = 0
          · simp [h1, h2, h3, h4, h5]
          · simp [h1, h2, h3, h4, h5]
        · simp [h1, h2, h3, h4]
      · simp [h1, h2, h3]
    · simp [h1, h2]
  · simp [h1]
def OffT (x : Ta) (t : Int) : Prop := OffIs x.off x.R x.zl t
instance (x : Ta) (t : Int) : Decidable (OffT x t) := by unfold OffT; infer_instance
def locT (x : Ta) (t : Int) : Int := t + offT x.off x.R x.zl t
def dayT (x : Ta) (t : Int) : Int := locT x t / 86400
def minT (x : Ta) (t : Int) : Int := locT x t % 86400 / 60
theorem loc_bounds {x : Ta} {t : Int} (hz : ZoneIs x.off x.R x.zl) (h : OffT x t) : 0 ≤ locT x t ∧ locT x t < 253402300800 := by
  have hx := offT_x x.off x.R x.zl t
  have hb := xOf_bounds hz (yearI (t + x.off)) (t + x.off)
  obtain ⟨⟨o1, o2⟩, o3⟩ := id h
  have o4 : t + offT x.off x.R x.zl t < 253402300800 := o3
  unfold locT
  omega
/-- The local day's season and kind, and the minute. -/
def LocIs (x : Ta) (t s k mi : Int) : Prop := ∃ y m d, IsDate (dayT x t) y m d ∧ H8.SeaIs x.S x.sl (H8.bgn m d) s ∧ k = H8.kindB (dayT x t) (decide (dayT x t ∈ H8.hds x.H y x.hl)) ∧ mi = minT x t
theorem LocIs.unique {x : Ta} (hx : TarIs x) {t s k mi s' k' mi' : Int} (h : LocIs x t s k mi) (h' : LocIs x t s' k' mi') : s = s' ∧ k = k' ∧ mi = mi' := by
  obtain ⟨y, m, d, h1, h2, h3, h4⟩ := h
  obtain ⟨y', m', d', h1', h2', h3', h4'⟩ := h'
  obtain ⟨rfl, rfl, rfl⟩ := h1.unique h1'
  have hc := hx.2.1
  exact ⟨h2.unique hc.2.2.2.1 hc.2.2.2.2 h2', h3.trans h3'.symm, h4.trans h4'.symm⟩
theorem LocIs.bounds {x : Ta} (hx : TarIs x) {t s k mi : Int} (h : LocIs x t s k mi) : (0 ≤ s ∧ s ≤ 99) ∧ (1 ≤ k ∧ k ≤ 4) ∧ B9.InDay mi := by
  obtain ⟨y, m, d, h1, h2, rfl, rfl⟩ := h
  refine ⟨?_, ?_, ?_⟩
  · rcases h2 with ⟨_, rfl⟩ | ⟨i, hi, rfl, _⟩
    · omega
    · have := hx.2.1.2.2.2.1 i hi
      unfold H8.SeIs at this
      omega
  · unfold H8.kindB
    split
    · omega
    · unfold H8.kindW; split <;> (try split) <;> omega
  · unfold B9.InDay minT; omega
section
variable (x : Ta) (t : Int) (w : World) (hA : TarAt w.heap.size w x) (hL : TarLen x) (hT : Tabs w)
include hA hT
theorem dayT_yes (hz : ZoneIs x.off x.R x.zl) (h : OffT x t) :
    Calls Tryd.prog 23 #[zoneV x.off x.za x.zl x.zc, .int .i64 t] w fun e w' => e = .returned (.tuple #[.int .i64 (dayT x t), .int .i64 (minT x t), .int .i64 0]) ∧ Below w.heap.size w w' := by
  obtain ⟨b1, b2⟩ := loc_bounds hz h
  obtain ⟨y, m, d, hd⟩ := date_exists (dayT x t) (by unfold dayT; omega) (by unfold dayT; omega)
  have k := dayZ_walk x.off t x.za x.zl x.zc x.R w hA.z hT y m d (locT x t % 86400 / 3600) (locT x t % 3600 / 60) (locT x t % 60) _ (dayT x t)
    (fun X hX => localOf_yes x.off t x.za x.zl x.zc x.R X ((hA.z.next hX).mono hX.size) hz (hT.next hX) h (locT x t) rfl y m d hd) hd (by omega) (by omega)
  rwa [show locT x t % 86400 / 3600 * 60 + locT x t % 3600 / 60 = minT x t by unfold minT; omega] at k
theorem dayT_no (ht : In64 t) (hz : ZoneIs x.off x.R x.zl) (h : ¬ OffT x t) :
    Calls Tryd.prog 23 #[zoneV x.off x.za x.zl x.zc, .int .i64 t] w fun e w' => e = .returned (.tuple #[.int .i64 0, .int .i64 0, .int .i64 60]) ∧ Below w.heap.size w w' :=
  dayZ_no x.off t x.za x.zl x.zc x.R w hA.z 0 0 0 0 0 0 0 60 (fun X hX => localOf_no x.off t x.za x.zl x.zc x.R X ht ((hA.z.next hX).mono hX.size) hz (hT.next hX) h) (.inl rfl)
include hL
theorem local_bad (E : Int) (hE : tarE x = E) (h0 : (E != 0) = true) :
    Calls Tryd.prog 10 #[tarV x, .int .i64 t] w fun e w' => e = .returned (.tuple #[.int .i64 0, .int .i64 0, .int .i64 0, .int .i64 E]) ∧ Below w.heap.size w w' := by
  have hB0 := (Below.refl w.heap.size w).alloc (Nat.le_refl _) (.cells (tarC x) 40)
  have HC := Lib.hid (hE ▸ tcheck_any x (w.alloc (.cells (tarC x) 40)) (hA.up hB0) hL (hT.next hB0))
  have HB := Lib.hid hB0
  clear hA hL hT hE hB0
  go_enter Tryd.func10, Tryd.ntmps10
  go_wp2_with fail
  refine HC.out.mono ?_
  rintro e w1 ⟨rfl, hB⟩
  go_wp2
  refine bodyPost_ret (results_tmp4 rfl _ _ _) rfl ?_
  exact ⟨rfl, HB.out.trans (hB.mono HB.out.size)⟩
theorem local_no (hx : TarIs x) (ht : In64 t) (h : ¬ OffT x t) :
    Calls Tryd.prog 10 #[tarV x, .int .i64 t] w fun e w' => e = .returned (.tuple #[.int .i64 0, .int .i64 0, .int .i64 0, .int .i64 60]) ∧ Below w.heap.size w w' := by
  have hB0 := (Below.refl w.heap.size w).alloc (Nat.le_refl _) (.cells (tarC x) 40)
  have HC := Lib.hid ((tarE_yes hx) ▸ tcheck_any x (w.alloc (.cells (tarC x) 40)) (hA.up hB0) hL (hT.next hB0))
  have HD := Lib.hid (fun W (hW : Below w.heap.size w W) => dayT_no x t W (hA.up hW) (hT.next hW) ht hx.1 h)
  have HB := Lib.hid hB0
  have HX := Lib.hid (show TarBox (w.alloc (.cells (tarC x) 40)) w.heap.size x from heap_alloc_new w _)
  clear hA hL hT hx ht h hB0
  go_enter Tryd.func10, Tryd.ntmps10
  go_wp2_with fail
  refine HC.out.mono ?_
  rintro e w1 ⟨rfl, hB⟩
  have hB1 := HB.out.trans (hB.mono HB.out.size)
  obtain ⟨c0, c1, c2, c3, c4, c5, c6⟩ := (HX.out.next hB).cells
  have HB1 := Lib.hid hB1
  clear hB hB1
  go_wp2_with fail
  refine (HD.out _ HB1.out).mono ?_
  rintro e w2 ⟨rfl, hB2⟩
  go_wp2
  refine bodyPost_ret (results_tmp4 rfl _ _ _) rfl ?_
  exact ⟨rfl, HB1.out.trans (hB2.mono HB1.out.size)⟩
set_option maxHeartbeats 1000000 in
theorem local_yes (hx : TarIs x) (h : OffT x t) :
    Calls Tryd.prog 10 #[tarV x, .int .i64 t] w fun e w' => (∃ s k mi, LocIs x t s k mi ∧ e = .returned (.tuple #[.int .i64 s, .int .i64 k, .int .i64 mi, .int .i64 0])) ∧ Below w.heap.size w w' := by
  have hB0 := (Below.refl w.heap.size w).alloc (Nat.le_refl _) (.cells (tarC x) 40)
  have HC := Lib.hid ((tarE_yes hx) ▸ tcheck_any x (w.alloc (.cells (tarC x) 40)) (hA.up hB0) hL (hT.next hB0))
  have HD := Lib.hid (fun W (hW : Below w.heap.size w W) => dayT_yes x t W (hA.up hW) (hT.next hW) hx.1 h)
  obtain ⟨b1, b2⟩ := loc_bounds hx.1 h
  obtain ⟨y, m, d, hd⟩ := date_exists (dayT x t) (by unfold dayT; omega) (by unfold dayT; omega)
  have HS := Lib.hid (fun W (hW : Below w.heap.size w W) => H8.season_yes x.ha x.hl x.hc x.sa x.sl x.sc x.H x.S (dayT x t) hx.2.1 y m d hd W (hA.up hW).h (hA.up hW).s (hT.next hW) hL.h hL.s)
  have HK := Lib.hid (fun W (hW : Below w.heap.size w W) => H8.kind_yes x.ha x.hl x.hc x.sa x.sl x.sc x.H x.S (dayT x t) hx.2.1 y m d hd W (hA.up hW).h (hA.up hW).s (hT.next hW) hL.h hL.s)
  have HLI := Lib.hid (fun s (q : H8.SeaIs x.S x.sl (H8.bgn m d) s) => (show LocIs x t s (H8.kindB (dayT x t) (decide (dayT x t ∈ H8.hds x.H y x.hl))) (minT x t) from ⟨y, m, d, hd, q, rfl, rfl⟩))
  have HB := Lib.hid hB0
  have HX := Lib.hid (show TarBox (w.alloc (.cells (tarC x) 40)) w.heap.size x from heap_alloc_new w _)
  clear hA hL hT hx h hB0 b1 b2 hd
  generalize H8.kindB (dayT x t) (decide (dayT x t ∈ H8.hds x.H y x.hl)) = kd at *
  generalize minT x t = mi at *
  generalize dayT x t = dy at *
  go_enter Tryd.func10, Tryd.ntmps10
  go_wp2_with fail
  refine HC.out.mono ?_
  rintro e w1 ⟨rfl, hB⟩
  have HX1 := Lib.hid (HX.out.next hB)
  obtain ⟨c0, c1, c2, c3, c4, c5, c6⟩ := HX1.out.cells
  have HB1 := Lib.hid (HB.out.trans (hB.mono HB.out.size))
  clear hB
  go_wp2_with fail
  refine (HD.out _ HB1.out).mono ?_
  rintro e w2 ⟨rfl, hB⟩
  have HX2 := Lib.hid (HX1.out.next hB)
  clear c0 c1 c2 c3 c4 c5 c6
  obtain ⟨c0, c1, c2, c3, c4, c5, c6⟩ := HX2.out.cells
  have HB2 := Lib.hid (HB1.out.trans (hB.mono HB1.out.size))
  clear hB
  go_wp2_with fail
  refine (HS.out _ HB2.out).mono ?_
  rintro e w3 ⟨⟨s, hs, rfl⟩, hB⟩
  have HSI := Lib.hid hs
  have HX3 := Lib.hid (HX2.out.next hB)
  clear c0 c1 c2 c3 c4 c5 c6 hs
  obtain ⟨c0, c1, c2, c3, c4, c5, c6⟩ := HX3.out.cells
  have HB3 := Lib.hid (HB2.out.trans (hB.mono HB2.out.size))
  clear hB
  go_wp2_with fail
  refine (HK.out _ HB3.out).mono ?_
  rintro e w4 ⟨rfl, hB⟩
  have HB4 := Lib.hid (HB3.out.trans (hB.mono HB3.out.size))
  clear hB
  go_wp2
  refine bodyPost_ret (results_tmp4 rfl _ _ _) rfl ?_
  exact ⟨⟨s, kd, mi, HLI.out s HSI.out, rfl⟩, HB4.out⟩
end
end Go.Proofs.YtbffmobjiiicoaaDoor
