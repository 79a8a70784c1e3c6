/- The program's Cost. -/
import Derived.Test.YtbffmobjiiicoaaPIter
import Derived.Test.YtbffmobjiiicoaaFCopy
import Derived.Test.YtbffmobjiiicoaaPScope
import Derived.BigRegionIn
import Derived.Stop.RegionWithIn
import Derived.IntWalk
import Derived.RangeFuncKeeps
set_option linter.unusedVariables false
set_option linter.unusedSimpArgs false
namespace Go.Proofs.Ytbffmobjiiicoaa
open Go.RowKit
attribute [local go_sem] Oper.semAt_some
def CostE (L : Nat → Int × Int) (len : Nat) (e : Ending) : Prop := ∃ c r x, CostIs L len c r x ∧ e = .returned (.tuple #[.int .i64 c, .int .i64 r, .int .i64 x])
theorem heap_oldP {W : World} {b : Nat} {o : Obj} (h : W.heap[b]? = some o) (o' : Obj) : (W.alloc o').heap[b]? = some o := (Below.heap_alloc W o' b (Array.getElem?_eq_some_iff.1 h).1).trans h
abbrev costBox (w : World) : World := ((w.alloc (.cells #[.int .i64 0] 33)).alloc (.cells zeroP 27)).alloc (.cells #[.int .u64 0] 52)
theorem results_c {x y : Value} {z : Int} {b : Nat} {tmps : Array Value} {w : World} (h2 : tmps.getD 2 undef = x) (h3 : tmps.getD 3 undef = y) (h4 : tmps.getD 4 undef = .pointer (some ⟨b, 0, none⟩)) (hb : w.heap[b]? = some (.cells #[.int .i64 z] 33 (0, 0))) :
    (results Try.f11 tmps).run Try.prog w = .ok (.tuple #[x, y, .int .i64 z]) w := by
  have c0 : w.cell? ⟨b, 0, none⟩ = some (.int .i64 z) := cell_of_row _ b 0 _ _ _ hb
  simp only [Array.getD_eq_getD_getElem?] at h2 h3 h4
  simp [results, Try.results11, go_sem, h2, h3, h4, c0]
set_option maxRecDepth 100000 in
set_option maxHeartbeats 8000000 in
theorem cost_any (a : Option Addr) (len cap : Nat) (L : Nat → Int × Int) (h200 : len ≤ 100000) (w : World) (hA : PairsAt w.heap.size w a len L) :
    Calls Try.prog 11 #[.slice a len cap] w fun e w' => CostE L len e ∧ Below w.heap.size w w' := by
  have hz := (zero_of_info infoP).1
  have HL := Lib.hid h200
  -- the blocks laid ahead
  have s1 : (w.alloc (.cells #[.int .i64 0] 33)).heap.size = w.heap.size + 1 := World.size_alloc _ _
  have s2 : ((w.alloc (.cells #[.int .i64 0] 33)).alloc (.cells zeroP 27)).heap.size = w.heap.size + 2 := by rw [World.size_alloc, s1]
  have s3 : (costBox w).heap.size = w.heap.size + 3 := by rw [World.size_alloc, s2]
  have sY : (payBoxes (costBox w) a len cap (w.heap.size + 1)).heap.size = w.heap.size + 5 := by rw [World.size_alloc, World.size_alloc, s3]
  have r0 := heap_alloc_new w (.cells #[.int .i64 0] 33)
  have r1 : PAt 27 ((w.alloc (.cells #[.int .i64 0] 33)).alloc (.cells zeroP 27)) (w.heap.size + 1) (Fs L 0) := by have := PAt.new (w.alloc (.cells #[.int .i64 0] 33)) 27 (fun _ => 0); rw [s1] at this; exact this
  have r2 := heap_alloc_new ((w.alloc (.cells #[.int .i64 0] 33)).alloc (.cells zeroP 27)) (.cells #[.int .u64 0] 52)
  rw [s2] at r2
  have r3 := heap_alloc_new (costBox w) (.cells #[.slice a len cap] 43)
  rw [s3] at r3
  have r4 := heap_alloc_new ((costBox w).alloc (.cells #[.slice a len cap] 43)) (.cells #[.pointer (some ⟨w.heap.size + 1, 0, none⟩)] 23)
  rw [World.size_alloc, s3] at r4
  have y0 := heap_oldP (heap_oldP (heap_oldP (heap_oldP r0 (.cells zeroP 27)) (.cells #[.int .u64 0] 52)) (.cells #[.slice a len cap] 43)) (.cells #[.pointer (some ⟨w.heap.size + 1, 0, none⟩)] 23)
  have y1 := ((r1.alloc (.cells #[.int .u64 0] 52)).alloc (.cells #[.slice a len cap] 43)).alloc (.cells #[.pointer (some ⟨w.heap.size + 1, 0, none⟩)] 23)
  have y2 := heap_oldP (heap_oldP r2 (.cells #[.slice a len cap] 43)) (.cells #[.pointer (some ⟨w.heap.size + 1, 0, none⟩)] 23)
  have y3 := heap_oldP r3 (.cells #[.pointer (some ⟨w.heap.size + 1, 0, none⟩)] 23)
  have yb : Below w.heap.size w (payBoxes (costBox w) a len cap (w.heap.size + 1)) := ((((Below.refl _ w).alloc (Nat.le_refl _) _).alloc (by rw [s1]; omega) _).alloc (by rw [s2]; omega) _ |>.alloc (by rw [s3]; omega) _).alloc (by rw [World.size_alloc, s3]; omega) _
  obtain ⟨Y, hY⟩ : ∃ Y, payBoxes (costBox w) a len cap (w.heap.size + 1) = Y := ⟨_, rfl⟩
  have hAY : PairsAt w.heap.size Y a len L := by rw [← hY]; exact hA.next yb (Nat.le_refl _)
  change (payBoxes (costBox w) a len cap (w.heap.size + 1)).heap[w.heap.size]? = _ at y0
  change PAt 27 (payBoxes (costBox w) a len cap (w.heap.size + 1)) _ _ at y1
  change (payBoxes (costBox w) a len cap (w.heap.size + 1)).heap[w.heap.size + 2]? = _ at y2
  change (payBoxes (costBox w) a len cap (w.heap.size + 1)).heap[w.heap.size + 3]? = _ at y3
  change (payBoxes (costBox w) a len cap (w.heap.size + 1)).heap[w.heap.size + 3 + 1]? = _ at r4
  rw [hY] at y0 y1 y2 y3 r4 yb sY
  have HYY := Lib.hid hY
  have HY := Lib.hid (And.intro y0 (And.intro y1 (And.intro y2 (And.intro y3 (And.intro r4 (And.intro yb hAY))))))
  have HYS := Lib.hid sY
  have HS3 := Lib.hid s3
  clear h200 hA s1 s2 s3 sY r0 r1 r2 r3 r4 y0 y1 y2 y3 yb hY hAY
  refine (callsIn_wide (n := 8)).1 ?_
  refine callsIn_of_wp_marks Try.func11 rfl trivial ?_ rfl
  simp only [Try.ntmps11, List.size_toArray, List.length_cons, List.length_nil, Nat.reduceAdd, Nat.reduceSub, Array.replicate_succ, Array.replicate_zero, List.push_toArray, List.append_toArray, List.nil_append, List.cons_append]
  gi_wp2
  refine PS.wpIn_scope_straight (wpIn_seq ?_)
  gi_wp2
  refine wpIn_label ?_
  gi_wp2_with fail
  refine ⟨trivial, ?_⟩
  refine (paymentsOf_in _ a len cap (w.heap.size + 1) _).mono ?_
  rintro e w' ⟨rfl, hw⟩
  obtain rfl : Y = w' := HYY.out.symm.trans hw.symm
  rw [show ((w.alloc (.cells #[.int .i64 0] 33)).alloc (.cells zeroP 27) |>.alloc (.cells #[.int .u64 0] 52)).heap.size = w.heap.size + 3 from HS3.out]
  clear HYY hw HS3 hz
  gi_wp2_with fail
  have hYS := HYS.out
  obtain ⟨y0, y1, y2, y3, y4, yb, hAY⟩ := HY.out
  refine wpIn_rangeFunc_pay (gf := 26) (lb := #[.pointer (some ⟨w.heap.size + 3, 0, none⟩), .pointer (some ⟨w.heap.size + 3 + 1, 0, none⟩)]) rfl (enters_of Try.func26 (by kernel_rfl) rfl)
    len (encX L) (w.heap.size + 1) (by omega) (fun j => j = w.heap.size ∨ j = w.heap.size + 2) (fun W' => PAt 27 W' (w.heap.size + 1) (Fs L len)) 0
    (payments_seq (8 - 1) (by omega) (w.heap.size + 3) (w.heap.size + 3 + 1) (w.heap.size + 1) (by omega) a len cap L HL.out w.heap.size (by omega) _ (fun j hj => by omega) Y y3 y4 y1 hAY (by omega))
    (steadyG_block _ (w.heap.size + 1) _ (by omega)) (fun _ => rfl) (fun j hj => by omega)
    (fun k W => W.heap[w.heap.size]? = some (.cells #[.int .i64 0] 33 (0, 0)) ∧ W.heap[w.heap.size + 2]? = some (.cells #[.int .u64 (Ks L k)] 52 (0, 0)) ∧ (∀ j, j < k → Es L j = 0) ∧ Below w.heap.size w W)
    (fun k W => W.heap[w.heap.size]? = some (.cells #[.int .i64 (Es L k)] 33 (0, 0)) ∧ (Es L k ≠ 0 ∧ ∀ j, j < k → Es L j = 0) ∧ Below w.heap.size w W)
    (fun k => (steadyG_block _ _ _ (by omega)).and ((steadyG_block _ _ _ (by omega)).and ((steadyG_pure _ _).and (steadyG_below _ _ _ (fun r hr => by omega) (Nat.le_refl _)))))
    (fun k => (steadyG_block _ _ _ (by omega)).and ((steadyG_pure _ _).and (steadyG_below _ _ _ (fun r hr => by omega) (Nat.le_refl _))))
    ⟨y0, y2, fun j hj => absurd hj (Nat.not_lt_zero _), yb⟩
    (fun k a₁ W => a₁ = { tmps := #[.slice a len cap, undef, .int .i64 0, .int .i64 0, .pointer (some ⟨w.heap.size, 0, none⟩), .pointer (some ⟨w.heap.size + 1, 0, none⟩), .pointer (some ⟨w.heap.size + 1 + 1, 0, none⟩), .int .i64 (Xs L k), .int .i64 (Es L k), .slice a len cap, .func (.func 26) #[] #[.pointer (some ⟨w.heap.size + 3, 0, none⟩), .pointer (some ⟨w.heap.size + 3 + 1, 0, none⟩)], .int .i64 (Xs L k), .int .i64 (Es L k), undef, undef, undef, undef, undef, undef, undef, undef, undef, undef, undef, undef, undef, undef, undef, undef, undef, undef, undef, undef], defers := [] })
    (fun k a₁ X' Y row hs hg hr => hs)
    ?assign ?body ?done ?stop
  case assign =>
    intro l k W K hsz hk hI hK
    unfold encX
    gi_wp2
    exact hK _ _ (Only.refl _ _ _) hI rfl
  case body =>
    rintro l' k a₁ W hsz hk ⟨h0, h2, hall, hB⟩ rfl
    clear y0 y1 y2 y3 y4 yb hAY
    have HI0 := Lib.hid h0
    have HI2 := Lib.hid h2
    have HALL := Lib.hid hall
    have HB := Lib.hid hB
    have c0 : W.cell? ⟨w.heap.size, 0, none⟩ = some (.int .i64 0) := cell_of_row _ _ 0 _ _ _ h0
    have f0 := frozen_of_row W _ 0 _ _ h0
    have c2 : W.cell? ⟨w.heap.size + 1 + 1, 0, none⟩ = some (.int .u64 (Ks L k)) := cell_of_row _ _ 0 _ _ _ h2
    have f2 : W.frozen? ⟨w.heap.size + 1 + 1, 0, none⟩ = false := frozen_of_row W (w.heap.size + 2) 0 _ _ h2
    clear h0 h2 hall hB
    by_cases hE : Es L k = 0
    case neg =>
      have e1 : (Es L k != 0) = true := by simpa using hE
      have HE := Lib.hid hE
      clear hE
      gi_wp2_with fail
      exact ⟨rfl, (Only.refl _ _ _).setCell ⟨w.heap.size, 0, none⟩ (.inl rfl) _, heap_setCell_same _ w.heap.size 0 _ _ _ HI0.out, ⟨HE.out, HALL.out⟩, HB.out.setCell (p := ⟨w.heap.size, 0, none⟩) (Nat.le_refl _) _⟩
    case pos =>
      have e1 : (Es L k != 0) = false := by simpa using hE
      obtain ⟨x0, x1⟩ := xs_bounds L k
      obtain ⟨k0, k1⟩ := ks_bounds L k
      have HALL2 := Lib.hid (show ∀ j, j < k + 1 → Es L j = 0 from fun j hj => by
        rcases Nat.lt_or_ge j k with q | q
        · exact HALL.out j q
        · obtain rfl : j = k := by omega
          exact hE)
      have hst := ks_step L k
      generalize Xs L k = x at *
      generalize Ks L k = t at *
      generalize Ks L (k + 1) = t2 at *
      have HST := Lib.hid hst
      clear hE hst HALL
      gi_wp2_with fail
      all_goals
        refine ⟨(Only.refl _ _ _).setCell ⟨w.heap.size + 2, 0, none⟩ (.inr rfl) _, (heap_setCell_other W ⟨w.heap.size + 2, 0, none⟩ w.heap.size _ (by show w.heap.size ≠ w.heap.size + 2; omega)).trans HI0.out, ?_, HALL2.out, HB.out.setCell (p := ⟨w.heap.size + 2, 0, none⟩) (by show w.heap.size ≤ w.heap.size + 2; omega) _⟩
        have e2 := HST.out
        first
          | (rw [show t2 = t + x by split at e2 <;> omega]; exact heap_setCell_same _ (w.heap.size + 2) 0 _ _ _ HI2.out)
          | (rw [show t2 = 4611686018427387905 by split at e2 <;> omega]; exact heap_setCell_same _ (w.heap.size + 2) 0 _ _ _ HI2.out)
  case done =>
    rintro D W rfl ⟨h0, h2, hall, hB⟩ hfin hK
    clear y0 y1 y2 y3 y4 yb hAY
    have HI0 := Lib.hid h0
    have HB := Lib.hid hB
    have HK := Lib.hid hK
    have HK5 := Lib.hid (show W.heap[w.heap.size + 5]? = some (.deferred (some [])) by rw [← hYS]; exact hK)
    have HALL := Lib.hid hall
    have HR := Lib.hid (rest_any 0 0 W.drew (B := w.heap.size + 1) (f := Fs L len) hfin)
    have hrv : restV (Fs L len) 0 0 = Fs L len 0 := if_pos (by decide)
    rw [hrv] at HR
    have c0 : W.cell? ⟨w.heap.size, 0, none⟩ = some (.int .i64 0) := cell_of_row _ _ 0 _ _ _ h0
    have f0 := frozen_of_row W _ 0 _ _ h0
    have c2 : W.cell? ⟨w.heap.size + 1 + 1, 0, none⟩ = some (.int .u64 (Ks L len)) := cell_of_row _ _ 0 _ _ _ h2
    have htb := ts_bounds L len
    have hmx : Try.prog.follows .mixedOrders = true := by kernel_rfl
    clear h0 h2 hall hB hfin hK hrv
    by_cases hT : Ts L len ≤ 4611686018427387904
    · have hks : Ks L len = Ts L len := if_pos (by omega)
      rw [hks] at c2
      have HC := Lib.hid (show CostIs L len (Ts L len) (Fs L len 0) 0 from .inr ⟨HALL.out, .inl ⟨hT, rfl, rfl, rfl⟩⟩)
      generalize Ts L len = t at *
      generalize Fs L len 0 = r at *
      clear hks
      gi_wp2_with fail
      first
        | (gi_region_with (refine ⟨trivial, ?_⟩; refine (callsIn_wide.2 HR.out).mono ?_; rintro e w9 ⟨rfl, rfl⟩))
        | fail
      all_goals
        gi_wp2_with fail
        rw [show IntKind.i64.wrap t = t from IntWalk.i64_in _ (by omega)]
        refine ⟨by simp, .inl ⟨_, _, rfl, run_takeDeferred (by exact (heap_setCell_other _ ⟨w.heap.size, 0, none⟩ _ _ (by show _ ≠ w.heap.size; omega)).trans HK5.out), ?_⟩⟩
        refine ⟨_, results_c rfl rfl rfl ((World.putObj_heap_other (by omega)).trans (heap_setCell_same W w.heap.size 0 _ _ _ HI0.out)), ⟨_, _, _, HC.out, rfl⟩, ((HB.out.setCell (p := ⟨w.heap.size, 0, none⟩) (Nat.le_refl _) (.int .i64 0)).drew).trans (belowK_b (w := w) (Nat.le_refl _) _ _ _ _ (by omega) (by exact (heap_setCell_other _ ⟨w.heap.size, 0, none⟩ _ _ (by show _ ≠ w.heap.size; omega)).trans HK5.out) rfl rfl)⟩
    · have hks : Ks L len = 4611686018427387905 := if_neg (by omega)
      rw [hks] at c2
      have HC := Lib.hid (show CostIs L len 0 0 10 from .inr ⟨HALL.out, .inr ⟨by omega, rfl, rfl, rfl⟩⟩)
      have d0 : (W.setCell ⟨w.heap.size, 0, none⟩ (.int .i64 10)).cell? ⟨w.heap.size, 0, none⟩ = some (.int .i64 10) := cell_of_row _ _ 0 _ _ _ (heap_setCell_same _ w.heap.size 0 _ _ _ HI0.out)
      have g0 : (W.setCell ⟨w.heap.size, 0, none⟩ (.int .i64 10)).frozen? ⟨w.heap.size, 0, none⟩ = false := frozen_of_row _ _ 0 _ _ (heap_setCell_same _ w.heap.size 0 _ _ _ HI0.out)
      clear hks htb hT
      gi_wp2_with fail
      gi_region
      gi_wp2_with fail
      refine ⟨by simp, .inl ⟨_, _, rfl, run_takeDeferred (by exact (heap_setCell_other _ ⟨w.heap.size, 0, none⟩ _ _ (by show _ ≠ w.heap.size; omega)).trans ((heap_setCell_other _ ⟨w.heap.size, 0, none⟩ _ _ (by show _ ≠ w.heap.size; omega)).trans HK.out)), ?_⟩⟩
      refine ⟨_, results_c rfl rfl rfl ((World.putObj_heap_other (by omega)).trans (heap_setCell_same _ w.heap.size 0 _ _ _ (heap_setCell_same W w.heap.size 0 _ _ _ HI0.out))), ⟨_, _, _, HC.out, rfl⟩, (((HB.out.setCell (p := ⟨w.heap.size, 0, none⟩) (Nat.le_refl _) (.int .i64 10)).setCell (p := ⟨w.heap.size, 0, none⟩) (Nat.le_refl _) (.int .i64 10)).drew).trans (belowK_b (w := w) (Nat.le_refl _) _ _ _ _ (by omega) (by exact (heap_setCell_other _ ⟨w.heap.size, 0, none⟩ _ _ (by show _ ≠ w.heap.size; omega)).trans ((heap_setCell_other _ ⟨w.heap.size, 0, none⟩ _ _ (by show _ ≠ w.heap.size; omega)).trans HK.out)) rfl rfl)⟩
  case stop =>
    rintro D k W rfl hk ⟨h0, hE, hB⟩ hK
    clear y0 y1 y2 y3 y4 yb hAY
    have HI0 := Lib.hid h0
    have HB := Lib.hid hB
    have HK := Lib.hid hK
    have HC := Lib.hid (show CostIs L len 0 0 (Es L k) from .inl ⟨k, hk, hE.2, rfl, hE.1, rfl, rfl⟩)
    have c0 : W.cell? ⟨w.heap.size, 0, none⟩ = some (.int .i64 (Es L k)) := cell_of_row _ _ 0 _ _ _ h0
    have f0 := frozen_of_row W _ 0 _ _ h0
    have e1 : (Es L k != 0) = true := by simpa using hE.1
    have e2 : (Es L k == 0) = false := by simpa using hE.1
    have hmx : Try.prog.follows .mixedOrders = true := by kernel_rfl
    clear h0 hB hK hE
    generalize Es L k = x at *
    gi_wp2_with fail
    gi_region
    gi_wp2_with fail
    refine ⟨by simp, .inl ⟨_, _, rfl, run_takeDeferred (by exact (heap_setCell_other _ ⟨w.heap.size, 0, none⟩ _ _ (by show _ ≠ w.heap.size; omega)).trans HK.out), ?_⟩⟩
    refine ⟨_, results_c rfl rfl rfl ((World.putObj_heap_other (by omega)).trans (heap_setCell_same W w.heap.size 0 _ _ _ HI0.out)), ⟨_, _, _, HC.out, rfl⟩, ((HB.out.setCell (p := ⟨w.heap.size, 0, none⟩) (Nat.le_refl _) (.int .i64 x)).drew).trans (belowK_b (w := w) (Nat.le_refl _) _ _ _ _ (by omega) (by exact (heap_setCell_other _ ⟨w.heap.size, 0, none⟩ _ _ (by show _ ≠ w.heap.size; omega)).trans HK.out) rfl rfl)⟩
end Go.Proofs.Ytbffmobjiiicoaa
