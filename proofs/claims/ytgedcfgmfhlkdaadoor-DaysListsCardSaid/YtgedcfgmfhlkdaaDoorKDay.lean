/- The contract of civil.Day. -/
import Derived.Test.YtgedcfgmfhlkdaaDoorKMonths
import Derived.Test.YtgedcfgmfhlkdaaDoorKScope
import Derived.Deep.RegionHeld3
import Derived.Deep.RegionWith
import Derived.Laws.EntriesVeiled
import Derived.WalkSmall
set_option linter.unusedVariables false
set_option linter.unusedSimpArgs false
namespace Go.Proofs.YtgedcfgmfhlkdaaDoor
open Go.RowKit Go.Shelf
attribute [local go_sem] Oper.semAt_some
/-- What Day answers: the day, or nought and the error. -/
def dayE (y m d : Int) : Int := if May y m d then dayOf y m d else 0
theorem heap_old {W : World} {b : Nat} {x : Obj} (h : W.heap[b]? = some x) (o : Obj) : (W.alloc o).heap[b]? = some x := (Below.heap_alloc W o b (Array.getElem?_eq_some_iff.1 h).1).trans h
theorem day_no (y m d : Int) (w : World) (hT : Tabs w) (h : ¬ May y m d) :
    Calls Tryd.prog 29 #[.agg #[.int .i64 y, .int .i64 m, .int .i64 d]] w fun e w' => e = .returned (.tuple #[.int .i64 0, .int .i64 60]) ∧ Below w.heap.size w w' := by
  have hb0 := (Below.refl _ w).alloc (Nat.le_refl _) (.cells #[.int .i64 y, .int .i64 m, .int .i64 d] 39)
  have hc := check_any y m d _ (hT.alloc (.cells #[.int .i64 y, .int .i64 m, .int .i64 d] 39))
  rw [mayE_no h] at hc
  have HC := Lib.hid hc
  have HB := Lib.hid hb0
  clear hc hb0
  refine (callsIn_wide (n := 4)).1 ?_
  refine callsIn_of_wp_marks Tryd.func29 rfl trivial ?_ rfl
  simp only [Tryd.ntmps29, List.size_toArray, List.length_cons, List.length_nil, Nat.reduceAdd, Nat.reduceSub, Array.replicate_succ, Array.replicate_zero, List.push_toArray, List.append_toArray, List.nil_append, List.cons_append]
  gi_wp2
  refine wpIn_scope_straight (wpIn_seq ?_)
  gi_wp2_with (refine ⟨trivial, ?_⟩; gi_at_call 49; refine (callsIn_wide.2 HC.out).mono ?_; rintro e w' ⟨rfl, hB1⟩)
  rw [Exit.noGoto_ret]
  exact ⟨_, results_tmp2 rfl _ _ _, rfl, HB.out.trans (hB1.mono (by simp))⟩
set_option maxRecDepth 100000 in
set_option maxHeartbeats 2000000 in
theorem day_yes (y m d : Int) (w : World) (hT : Tabs w) (h : May y m d) :
    Calls Tryd.prog 29 #[.agg #[.int .i64 y, .int .i64 m, .int .i64 d]] w fun e w' => e = .returned (.tuple #[.int .i64 (dayOf y m d), .int .i64 0]) ∧ Below w.heap.size w w' := by
  have hb0 := (Below.refl _ w).alloc (Nat.le_refl _) (.cells #[.int .i64 y, .int .i64 m, .int .i64 d] 39)
  have hc := check_any y m d _ (hT.alloc (.cells #[.int .i64 y, .int .i64 m, .int .i64 d] 39))
  rw [mayE_yes h] at hc
  have hda := daysAhead_any y (by have := h.1; omega) (by have := h.2.1; omega)
  obtain ⟨L, hL⟩ : ∃ L, L = ahead y := ⟨_, rfl⟩
  rw [← hL] at hda
  have HC := Lib.hid hc
  have HB := Lib.hid hb0
  have hlb : 0 ≤ L ∧ L ≤ 2932896 := by
    have := in_year h
    have h2 := day_bounds h
    have := ahead_le (a := 1970) (b := y) h.1
    rw [ahead_1970] at this
    omega
  have hdb : 1 ≤ d ∧ d ≤ 31 := ⟨h.2.2.2.2.1, by have := h.2.2.2.2.2; have := dlen_bounds (y := y) (m := m); omega⟩
  have HM := Lib.hid (show 1 ≤ m ∧ m ≤ 12 from ⟨h.2.2.1, h.2.2.2.1⟩)
  have HLB := Lib.hid hlb
  have HL := Lib.hid hL
  have HDA := Lib.hid hda
  have HMAY := Lib.hid h
  clear hc hb0 hL hda h
  have z0 := heap_alloc_new w (.cells #[.int .i64 y, .int .i64 m, .int .i64 d] 39)
  have Z0 := Lib.hid z0
  clear z0
  refine (callsIn_wide (n := 4)).1 ?_
  refine callsIn_of_wp_marks Tryd.func29 rfl trivial ?_ rfl
  simp only [Tryd.ntmps29, List.size_toArray, List.length_cons, List.length_nil, Nat.reduceAdd, Nat.reduceSub, Array.replicate_succ, Array.replicate_zero, List.push_toArray, List.append_toArray, List.nil_append, List.cons_append]
  gi_wp2
  refine wpIn_scope_straight (wpIn_seq ?_)
  gi_wp2_with (first | (refine ⟨trivial, ?_⟩; gi_at_call 49; refine (callsIn_wide.2 HC.out).mono ?_; rintro e w1 ⟨rfl, hB1⟩; refine Hid.out ?_))
  refine Lib.hid ?_
  have hz1 := (hB1.block w.heap.size (by simp)).trans Z0.out
  have c0 := cell_of_row w1 w.heap.size 0 _ _ _ hz1
  have c2 := cell_of_row w1 w.heap.size 2 _ _ _ hz1
  have HB1 := Lib.hid (HB.out.trans (hB1.mono (by simp)))
  have HE1 := Lib.hid (show IntKind.i64.wrap (L + d) = L + d from by simp only [IntKind.wrap_i64, wrap64]; omega)
  have HE2 := Lib.hid (show IntKind.i64.wrap (L + d - 1) = L + d - 1 from by simp only [IntKind.wrap_i64, wrap64]; omega)
  have HZ1 := Lib.hid hz1
  clear Z0 hB1 hz1 HB
  gi_wp2_with (fail)
  refine wpIn_wide.2 ?_
  go_region_held3 (fun w' => w'.cell? ⟨w.heap.size, 0, none⟩ = some (.int .i64 y) ∧ w'.cell? ⟨w.heap.size, 2, none⟩ = some (.int .i64 d))
            (first
              | go_keep)
            (first
              | (go_at_call 50; ((with_reducible refine (HDA.out _).mono ?_); rintro e w' ⟨rfl, rfl⟩)))
  all_goals
    clear HDA HC c0 c2
    obtain ⟨hm1, hm2⟩ := HM.out
    have hL2 := HLB.out
    rw [HE1.out, HE2.out]
    have hD1 : (w1.alloc (.cells #[.int .i64 (L + d - 1)] 3)).drew.heap[w.heap.size]? = some (.cells #[.int .i64 y, .int .i64 m, .int .i64 d] 39) := heap_old HZ1.out _
    have hD2 : Boxed (w1.alloc (.cells #[.int .i64 (L + d - 1)] 3)).drew w1.heap.size 3 (.int .i64 (L + d - 1)) := Boxed.new w1 3 _
    have hD3 : (w1.alloc (.cells #[.int .i64 (L + d - 1)] 3)).drew.heap.size = w1.heap.size + 1 := by simp
    have hD4 : Below w.heap.size w (w1.alloc (.cells #[.int .i64 (L + d - 1)] 3)).drew := (HB1.out.alloc HB1.out.size _).drew
    have hlt1 : w.heap.size < w1.heap.size := (Array.getElem?_eq_some_iff.1 HZ1.out).1
    generalize (w1.alloc (.cells #[.int .i64 (L + d - 1)] 3)).drew = X at *
    generalize w1.heap.size = b4 at *
    have cy := cell_of_row X w.heap.size 0 _ _ _ hD1
    have HD1 := Lib.hid hD1
    have HD2 := Lib.hid hD2
    have HD4 := Lib.hid hD4
    clear hD1 hD2 hD4 HZ1 HB1 HE1 HE2
    gi_wp2
    refine wpIn_label ?_
    gi_wp2_with (refine ⟨trivial, ?_⟩; gi_at_call 51; refine (monthsOf_in _ _ _).mono ?_; rintro e w' ⟨rfl, rfl⟩)
    have hb4 := hD3
    have bY := Boxed.new X 3 (.int .i64 y)
    rw [hD3] at bY
    obtain ⟨X2, hX2⟩ : ∃ X2, X.alloc (.cells #[.int .i64 y] 3) = X2 := ⟨_, rfl⟩
    have hz2 : X2.heap.size = b4 + 2 := by rw [← hX2]; simp; omega
    have d1 : X2.heap[w.heap.size]? = some (.cells #[.int .i64 y, .int .i64 m, .int .i64 d] 39) := by rw [← hX2]; exact heap_old HD1.out _
    have d2 : Boxed X2 b4 3 (.int .i64 (L + d - 1)) := by rw [← hX2]; exact HD2.out.alloc _
    have d4 : Below w.heap.size w X2 := by rw [← hX2]; exact HD4.out.alloc HD4.out.size _
    have hT2 : Tabs X2 := hT.next d4
    have cm := cell_of_row X2 w.heap.size 1 _ _ _ d1
    rw [hX2] at bY ⊢
    clear HD1 HD2 HD4 cy hX2
    refine wpIn_rangeFunc_ownG rfl (by omega) (gf := 67) (lb := #[.pointer (some ⟨b4 + 1, 0, none⟩)]) rfl trivial (enters_of Tryd.func67 (by kernel_rfl) rfl)
      (months_stops _ (by omega) (b4 + 1) X2.heap.size y X2 (by omega) (by omega) (Nat.le_refl _) bY.cell hT2) belowK_t (belowK_b (Nat.le_refl _)) (Below.refl _ _) (fun _ => rfl)
      (fun pre W => (Boxed W b4 3 (.int .i64 (L + d - 1)) ∧ W.cell? ⟨w.heap.size, 1, none⟩ = some (.int .i64 m) ∧ ∀ x ∈ pre, x.1 ≠ m) ∧ Below w.heap.size w W)
      (fun c pre W => (Boxed W b4 3 (.int .i64 (L + d - 1 + bef y m)) ∧ c = .exit 0) ∧ Below w.heap.size w W)
      (OwnFrom.and (Own.from (fun s A B row hs hg hr => ⟨boxed_own b4 3 (fun _ : Unit => .int .i64 (L + d - 1)) () A B row hs.1 hg hr, cell_kept hs.2.1 hg hr, hs.2.2⟩) _) (ownFrom_below (Nat.le_refl _) (by omega)))
      (fun c => OwnFrom.and (Own.from (fun s A B row hs hg hr => ⟨boxed_own b4 3 (fun _ : Unit => .int .i64 (L + d - 1 + bef y m)) () A B row hs.1 hg hr, hs.2⟩) _) (ownFrom_below (Nat.le_refl _) (by omega)))
      ⟨⟨d2, cm, by simp⟩, d4⟩
      (fun x => { tmps := #[.agg #[.int .i64 y, .int .i64 m, .int .i64 d], .pointer (some ⟨w.heap.size, 0, none⟩), .int .i64 0, .int .i64 0, .pointer (some ⟨b4, 0, none⟩), .int .i64 x.1, .int .i64 (bef y x.1), .agg #[.int .i64 y, .int .i64 m, .int .i64 d], .int .i64 0, .bool false, .pointer (some ⟨w.heap.size, 0, none⟩), .int .i64 y, .int .i64 L, .pointer (some ⟨w.heap.size, 2, none⟩), .int .i64 d, .int .i64 (L + d), .int .i64 (L + d - 1), .pointer (some ⟨w.heap.size, 0, none⟩), .int .i64 y, .func (.func 67) #[] #[.pointer (some ⟨b4 + 1, 0, none⟩)], .int .i64 x.1, .int .i64 (bef y x.1), undef, undef, undef, undef, undef, undef, undef, undef], defers := [] }) ?assign ?body ?done ?stop
    case assign =>
      intro l x W K hK
      unfold encM
      gi_wp2
      exact hK
    case body =>
      rintro l pre x W ⟨⟨hbx, hcm, hne⟩, hB⟩ hlt
      have hx := x.2
      have hbb := bef_bounds (y := y) (m := x.1) (by omega) (by omega)
      have hbc := hbx.cell
      have hbf := hbx.frozen
      have HBX := Lib.hid hbx
      have HB := Lib.hid hB
      have HNE := Lib.hid hne
      obtain ⟨bx, hbe⟩ : ∃ b, b = bef y x.1 := ⟨_, rfl⟩
      rw [← hbe] at hbb ⊢
      have HBE := Lib.hid hbe
      clear hbx hB hne hbe hT2 hT d1 d2 d4 cm bY
      by_cases he : x.1 = m
      · have HE := Lib.hid he
        have hed : (x.1 == m) = true := by simp [he]
        clear he
        gi_wp2
        refine ⟨(KeepsOthers.setCell _ _ _).from _, ⟨?_, rfl⟩, HB.out.setCell (p := ⟨b4, 0, none⟩) (by simp; omega) _⟩
        rw [← HE.out, ← HBE.out]
        exact heap_setCell_same W b4 0 _ _ _ HBX.out
      · have hed : (x.1 == m) = false := by simp [he]
        have HE := Lib.hid he
        clear he
        gi_wp2
        refine ⟨KeepsFrom.refl _ _, Below.refl _ _, ⟨HBX.out, hcm, ?_⟩, HB.out⟩
        intro z hz
        rcases List.mem_append.1 hz with h | h
        · exact HNE.out z h
        · rw [List.mem_singleton.1 h]; exact HE.out
    case done =>
      rintro D ys W hD rfl ⟨⟨hbx, hcm, hne⟩, hB⟩ hK
      exfalso
      obtain ⟨j, hj, hjm⟩ := mon_all ⟨m, hm1, hm2⟩
      have := hne (mon j) (by simp [upto]; exact ⟨j, hj, rfl⟩)
      rw [hjm] at this
      exact this rfl
    case stop =>
      rintro D c pre W hD hpre ⟨⟨hbx, rfl⟩, hB⟩ hK
      have hbc := hbx.cell
      have hday : L + d - 1 + bef y m = dayOf y m d := by rw [HL.out]; unfold dayOf; omega
      rw [hday] at hbc
      clear hday hT2 hT d1 d2 d4 cm bY
      gi_wp2
      rw [Exit.noGoto_ret]
      refine ⟨by simp, .inl ⟨_, _, rfl, run_takeDeferred hK, ?_⟩⟩
      exact ⟨_, results_tmp2 rfl _ _ _, rfl, hB.trans (belowK_b (w := w) (Nat.le_refl _) _ D _ _ (by omega) hK rfl rfl)⟩
theorem day_any (y m d : Int) (w : World) (hT : Tabs w) :
    Calls Tryd.prog 29 #[.agg #[.int .i64 y, .int .i64 m, .int .i64 d]] w fun e w' => e = .returned (.tuple #[.int .i64 (dayE y m d), .int .i64 (mayE y m d)]) ∧ Below w.heap.size w w' := by
  unfold dayE mayE
  by_cases h : May y m d
  · rw [if_pos h, if_pos h]; exact day_yes y m d w hT h
  · rw [if_neg h, if_neg h]; exact day_no y m d w hT h
end Go.Proofs.YtgedcfgmfhlkdaaDoor
