/- The contract of days.Is. -/
import Derived.Test.YtgedcfgmfhlkdaaDoorHDate
import Derived.Test.YtgedcfgmfhlkdaaDoorKOf
set_option linter.unusedVariables false
set_option linter.unusedSimpArgs false
namespace Go.Proofs.YtgedcfgmfhlkdaaDoor
open Go.RowKit Go.Shelf
attribute [local go_sem] Oper.semAt_some
set_option maxRecDepth 100000 in
set_option maxHeartbeats 2000000 in
theorem is_bad (ha : Option Addr) (hl hc : Nat) (sa : Option Addr) (sl sc : Nat) (H : Nat → Ho) (S : Nat → Se) (x : Int) (hcal : ¬ CalIs H hl S sl) (w : World) (hH : HosAt w.heap.size w ha hl H) (hS : SeasAt w.heap.size w sa sl S) (hT : Tabs w) (hlm : hl ≤ maxLen) (slm : sl ≤ maxLen) :
    Calls Tryd.prog 13 #[calV ha hl hc sa sl sc, .int .i64 x] w fun e w' => e = .returned (.tuple #[.bool false, .int .i64 80]) ∧ Below w.heap.size w w' := by
  have hb0 := ((Below.refl _ w).alloc (Nat.le_refl _) (.cells #[.slice ha hl hc, .slice sa sl sc] 25)).alloc (by simp) (.cells #[.int .i64 x] 3)
  have e1 : w.heap.size + 1 = (w.alloc (.cells #[.slice ha hl hc, .slice sa sl sc] 25)).heap.size := by rw [World.size_alloc]
  have hzc : ((w.alloc (.cells #[.slice ha hl hc, .slice sa sl sc] 25)).alloc (.cells #[.int .i64 x] 3)).heap[w.heap.size]? = some (.cells #[.slice ha hl hc, .slice sa sl sc] 25) := heap_old (heap_alloc_new w _) _
  have hzx : ((w.alloc (.cells #[.slice ha hl hc, .slice sa sl sc] 25)).alloc (.cells #[.int .i64 x] 3)).heap[w.heap.size + 1]? = some (.cells #[.int .i64 x] 3) := by rw [e1]; exact heap_alloc_new _ _
  have hsz : ((w.alloc (.cells #[.slice ha hl hc, .slice sa sl sc] 25)).alloc (.cells #[.int .i64 x] 3)).heap.size = w.heap.size + 2 := by simp [World.size_alloc]
  have HD := Lib.hid (dateOf_bad ha hl hc sa sl sc H S x hcal ((w.alloc (.cells #[.slice ha hl hc, .slice sa sl sc] 25)).alloc (.cells #[.int .i64 x] 3)) ((hH.next hb0 (Nat.le_refl _) (Nat.le_refl _)).mono (by omega)) ((hS.next hb0 (Nat.le_refl _) (Nat.le_refl _)).mono (by omega)) (hT.next hb0) hlm slm)
  have HB0 := Lib.hid hb0
  clear hb0 hzc hzx hsz e1 hH hS hT hlm slm
  refine (callsIn_wide (n := 4)).1 ?_
  refine callsIn_of_wp_marks Tryd.func13 rfl trivial ?_ rfl
  simp only [Tryd.ntmps13, List.size_toArray, List.length_cons, List.length_nil, Nat.reduceAdd, Nat.reduceSub, Array.replicate_succ, Array.replicate_zero, List.push_toArray, List.append_toArray, List.nil_append, List.cons_append]
  gi_wp2
  refine wpIn_scope_straight (wpIn_seq ?_)
  gi_wp2_with (refine ⟨trivial, ?_⟩; gi_at_call 36; refine (callsIn_wide.2 HD.out).mono ?_; rintro e w1 ⟨rfl, hB1⟩; have HB1 := Lib.hid hB1; clear hB1)
  rw [Exit.noGoto_ret]
  have hbf := HB0.out.trans (HB1.out.mono HB0.out.size)
  exact ⟨_, results_tmp2 rfl _ _ _, rfl, hbf.alloc hbf.size _⟩
set_option maxRecDepth 100000 in
set_option maxHeartbeats 2000000 in
theorem is_no (ha : Option Addr) (hl hc : Nat) (sa : Option Addr) (sl sc : Nat) (H : Nat → Ho) (S : Nat → Se) (x : Int) (hcal : CalIs H hl S sl) (hd : ¬ (0 ≤ x ∧ x ≤ 2932896)) (w : World) (hH : HosAt w.heap.size w ha hl H) (hS : SeasAt w.heap.size w sa sl S) (hT : Tabs w) (hlm : hl ≤ maxLen) (slm : sl ≤ maxLen) :
    Calls Tryd.prog 13 #[calV ha hl hc sa sl sc, .int .i64 x] w fun e w' => e = .returned (.tuple #[.bool false, .int .i64 60]) ∧ Below w.heap.size w w' := by
  have hb0 := ((Below.refl _ w).alloc (Nat.le_refl _) (.cells #[.slice ha hl hc, .slice sa sl sc] 25)).alloc (by simp) (.cells #[.int .i64 x] 3)
  have e1 : w.heap.size + 1 = (w.alloc (.cells #[.slice ha hl hc, .slice sa sl sc] 25)).heap.size := by rw [World.size_alloc]
  have hzc : ((w.alloc (.cells #[.slice ha hl hc, .slice sa sl sc] 25)).alloc (.cells #[.int .i64 x] 3)).heap[w.heap.size]? = some (.cells #[.slice ha hl hc, .slice sa sl sc] 25) := heap_old (heap_alloc_new w _) _
  have hzx : ((w.alloc (.cells #[.slice ha hl hc, .slice sa sl sc] 25)).alloc (.cells #[.int .i64 x] 3)).heap[w.heap.size + 1]? = some (.cells #[.int .i64 x] 3) := by rw [e1]; exact heap_alloc_new _ _
  have hsz : ((w.alloc (.cells #[.slice ha hl hc, .slice sa sl sc] 25)).alloc (.cells #[.int .i64 x] 3)).heap.size = w.heap.size + 2 := by simp [World.size_alloc]
  have HD := Lib.hid (dateOf_no ha hl hc sa sl sc H S x hcal hd ((w.alloc (.cells #[.slice ha hl hc, .slice sa sl sc] 25)).alloc (.cells #[.int .i64 x] 3)) ((hH.next hb0 (Nat.le_refl _) (Nat.le_refl _)).mono (by omega)) ((hS.next hb0 (Nat.le_refl _) (Nat.le_refl _)).mono (by omega)) (hT.next hb0) hlm slm)
  have HB0 := Lib.hid hb0
  clear hb0 hzc hzx hsz e1 hH hS hT hlm slm
  refine (callsIn_wide (n := 4)).1 ?_
  refine callsIn_of_wp_marks Tryd.func13 rfl trivial ?_ rfl
  simp only [Tryd.ntmps13, List.size_toArray, List.length_cons, List.length_nil, Nat.reduceAdd, Nat.reduceSub, Array.replicate_succ, Array.replicate_zero, List.push_toArray, List.append_toArray, List.nil_append, List.cons_append]
  gi_wp2
  refine wpIn_scope_straight (wpIn_seq ?_)
  gi_wp2_with (refine ⟨trivial, ?_⟩; gi_at_call 36; refine (callsIn_wide.2 HD.out).mono ?_; rintro e w1 ⟨rfl, hB1⟩; have HB1 := Lib.hid hB1; clear hB1)
  rw [Exit.noGoto_ret]
  have hbf := HB0.out.trans (HB1.out.mono HB0.out.size)
  exact ⟨_, results_tmp2 rfl _ _ _, rfl, hbf.alloc hbf.size _⟩
set_option maxRecDepth 100000 in
set_option maxHeartbeats 4000000 in
theorem is_yes (ha : Option Addr) (hl hc : Nat) (sa : Option Addr) (sl sc : Nat) (H : Nat → Ho) (S : Nat → Se) (x : Int) (hcal : CalIs H hl S sl) (y m d : Int) (hd : IsDate x y m d) (w : World) (hH : HosAt w.heap.size w ha hl H) (hS : SeasAt w.heap.size w sa sl S) (hT : Tabs w) (hlm : hl ≤ maxLen) (slm : sl ≤ maxLen) :
    Calls Tryd.prog 13 #[calV ha hl hc sa sl sc, .int .i64 x] w fun e w' => e = .returned (.tuple #[.bool (decide (x ∈ hds H y hl)), .int .i64 0]) ∧ Below w.heap.size w w' := by
  have hb0 := ((Below.refl _ w).alloc (Nat.le_refl _) (.cells #[.slice ha hl hc, .slice sa sl sc] 25)).alloc (by simp) (.cells #[.int .i64 x] 3)
  have e1 : w.heap.size + 1 = (w.alloc (.cells #[.slice ha hl hc, .slice sa sl sc] 25)).heap.size := by rw [World.size_alloc]
  have hzc : ((w.alloc (.cells #[.slice ha hl hc, .slice sa sl sc] 25)).alloc (.cells #[.int .i64 x] 3)).heap[w.heap.size]? = some (.cells #[.slice ha hl hc, .slice sa sl sc] 25) := heap_old (heap_alloc_new w _) _
  have hzx : ((w.alloc (.cells #[.slice ha hl hc, .slice sa sl sc] 25)).alloc (.cells #[.int .i64 x] 3)).heap[w.heap.size + 1]? = some (.cells #[.int .i64 x] 3) := by rw [e1]; exact heap_alloc_new _ _
  have hsz : ((w.alloc (.cells #[.slice ha hl hc, .slice sa sl sc] 25)).alloc (.cells #[.int .i64 x] 3)).heap.size = w.heap.size + 2 := by simp [World.size_alloc]
  have HD := Lib.hid (dateOf_yes ha hl hc sa sl sc H S x hcal y m d hd ((w.alloc (.cells #[.slice ha hl hc, .slice sa sl sc] 25)).alloc (.cells #[.int .i64 x] 3)) ((hH.next hb0 (Nat.le_refl _) (Nat.le_refl _)).mono (by omega)) ((hS.next hb0 (Nat.le_refl _) (Nat.le_refl _)).mono (by omega)) (hT.next hb0) hlm slm)
  have HB0 := Lib.hid hb0
  have HZC := Lib.hid hzc
  have HZX := Lib.hid hzx
  have HSZ := Lib.hid hsz
  have HH := Lib.hid hH
  have HT := Lib.hid hT
  have HCAL := Lib.hid hcal
  have hy0 := hd.1.1
  have hy1 := hd.1.2.1
  clear hb0 hzc hzx hsz e1 hH hS hT hlm slm hcal hd
  refine (callsIn_wide (n := 4)).1 ?_
  refine callsIn_of_wp_marks Tryd.func13 rfl trivial ?_ rfl
  simp only [Tryd.ntmps13, List.size_toArray, List.length_cons, List.length_nil, Nat.reduceAdd, Nat.reduceSub, Array.replicate_succ, Array.replicate_zero, List.push_toArray, List.append_toArray, List.nil_append, List.cons_append]
  gi_wp2
  refine wpIn_scope_straight (wpIn_seq ?_)
  gi_wp2_with (refine ⟨trivial, ?_⟩; gi_at_call 36; refine (callsIn_wide.2 HD.out).mono ?_; rintro e w1 ⟨rfl, hB1⟩; have HB1 := Lib.hid hB1; clear hB1)
  have hw1 : w.heap.size + 2 ≤ w1.heap.size := by have := HB1.out.size; rw [HSZ.out] at this; exact this
  have hb1 := HB0.out.trans (HB1.out.mono HB0.out.size)
  have zc1 := (HB1.out.block w.heap.size (by rw [HSZ.out]; omega)).trans HZC.out
  have zx1 := (HB1.out.block (w.heap.size + 1) (by rw [HSZ.out]; omega)).trans HZX.out
  have e2 : w1.heap.size + 1 = (w1.alloc (.cells #[.int .i64 y, .int .i64 m, .int .i64 d] 39)).heap.size := by rw [World.size_alloc]
  obtain ⟨X, hX⟩ : ∃ X, (w1.alloc (.cells #[.int .i64 y, .int .i64 m, .int .i64 d] 39)).alloc (.cells #[.bool false] 4) = X := ⟨_, rfl⟩
  have xzc : X.heap[w.heap.size]? = some (.cells #[.slice ha hl hc, .slice sa sl sc] 25) := by rw [← hX]; exact heap_old (heap_old zc1 _) _
  have xzx : X.heap[w.heap.size + 1]? = some (.cells #[.int .i64 x] 3) := by rw [← hX]; exact heap_old (heap_old zx1 _) _
  have xz6 : X.heap[w1.heap.size]? = some (.cells #[.int .i64 y, .int .i64 m, .int .i64 d] 39) := by rw [← hX]; exact heap_old (heap_alloc_new w1 _) _
  have xz8 : X.heap[w1.heap.size + 1]? = some (.cells #[.bool false] 4) := by rw [← hX, e2]; exact heap_alloc_new _ _
  have xsz : X.heap.size = w1.heap.size + 2 := by rw [← hX]; simp [World.size_alloc]
  have xb : Below w.heap.size w X := by rw [← hX]; exact (hb1.alloc hb1.size _).alloc (by have := hb1.size; simp; omega) _
  rw [hX]
  have XZX := Lib.hid xzx
  have XZ8 := Lib.hid xz8
  have XSZ := Lib.hid xsz
  have XB := Lib.hid xb
  have xc0 : X.cell? ⟨w.heap.size, 0, none⟩ = some (.slice ha hl hc) := cell_of_row _ _ 0 _ _ _ xzc
  have xc1 : X.cell? ⟨w.heap.size, 1, none⟩ = some (.slice sa sl sc) := cell_of_row _ _ 1 _ _ _ xzc
  have x60 : X.cell? ⟨w1.heap.size, 0, none⟩ = some (.int .i64 y) := cell_of_row _ _ 0 _ _ _ xz6
  clear xzx xz8 xsz xb hX e2 zc1 zx1 hb1 xzc xz6 HZC HZX HB0 HD HB1
  refine wpIn_label ?_
  gi_wp2_with (refine ⟨trivial, ?_⟩; gi_at_call 37; refine (holidaysIn_in _ _ _ _ _ _ _ _ _).mono ?_; rintro e w' ⟨rfl, rfl⟩)
  have xe : X.heap.size + 1 = (X.alloc (.cells #[.slice ha hl hc, .slice sa sl sc] 25)).heap.size := by rw [World.size_alloc]
  have hC2 : ((X.alloc (.cells #[.slice ha hl hc, .slice sa sl sc] 25)).alloc (.cells #[.int .i64 y] 3)).heap[X.heap.size]? = some (.cells #[.slice ha hl hc, .slice sa sl sc] 25) := heap_old (heap_alloc_new X _) _
  have hY2 : ((X.alloc (.cells #[.slice ha hl hc, .slice sa sl sc] 25)).alloc (.cells #[.int .i64 y] 3)).heap[X.heap.size + 1]? = some (.cells #[.int .i64 y] 3) := by rw [xe]; exact heap_alloc_new _ _
  have hs2 : ((X.alloc (.cells #[.slice ha hl hc, .slice sa sl sc] 25)).alloc (.cells #[.int .i64 y] 3)).heap.size = X.heap.size + 2 := by simp [World.size_alloc]
  have hbx2 : Below w.heap.size w ((X.alloc (.cells #[.slice ha hl hc, .slice sa sl sc] 25)).alloc (.cells #[.int .i64 y] 3)) := (XB.out.alloc XB.out.size _).alloc (by have := XB.out.size; simp; omega) _
  have hx82 := heap_old (heap_old XZ8.out (.cells #[.slice ha hl hc, .slice sa sl sc] 25)) (.cells #[.int .i64 y] 3)
  have hxx2 := heap_old (heap_old XZX.out (.cells #[.slice ha hl hc, .slice sa sl sc] 25)) (.cells #[.int .i64 y] 3)
  obtain ⟨X2, hX2⟩ : ∃ X2, (X.alloc (.cells #[.slice ha hl hc, .slice sa sl sc] 25)).alloc (.cells #[.int .i64 y] 3) = X2 := ⟨_, rfl⟩
  rw [hX2] at hC2 hY2 hs2 hbx2 hx82 hxx2 ⊢
  have hH2 : HosAt X2.heap.size X2 ha hl H := (HH.out.next hbx2 (Nat.le_refl _) (Nat.le_refl _)).mono hbx2.size
  have hT2 : Tabs X2 := HT.out.next hbx2
  have hT20 := hT2.lt
  have hbs := hbx2.size
  clear xe hX2 xc0 xc1 x60 XB XZ8 XZX HH
  refine wpIn_rangeFunc_ownG rfl (by omega) (gf := 57) (lb := #[.pointer (some ⟨X.heap.size, 0, none⟩), .pointer (some ⟨X.heap.size + 1, 0, none⟩)]) rfl trivial (enters_of Tryd.func57 (by kernel_rfl) rfl)
    (hol_stops (4 - 1) (by omega) X.heap.size (X.heap.size + 1) X2.heap.size ha hl hc sa sl sc H y HCAL.out.1 HCAL.out.2.2.1 hy0 hy1 (by omega) (by omega) hT20 X2 (Nat.le_refl _) hC2 hY2 hH2 hT2) (fun h k => Below.trans h k) (belowK_b (Nat.le_refl _)) (Below.refl _ _) (fun _ => rfl)
    (fun pre W => (W.heap[w1.heap.size + 1]? = some (.cells #[.bool false] 4) ∧ W.heap[w.heap.size + 1]? = some (.cells #[.int .i64 x] 3) ∧ (∀ z ∈ pre, z.1 ≠ x)) ∧ Below w.heap.size w W)
    (fun c pre W => ((∃ z ∈ pre, z.1 = x) ∧ W.heap[w1.heap.size + 1]? = some (.cells #[.bool true] 4) ∧ c = .exit 0) ∧ Below w.heap.size w W)
    (OwnFrom.and (Own.from (fun s A B row hs hg hr => ⟨cells_kept hs.1 hg hr, cells_kept hs.2.1 hg hr, hs.2.2⟩) _) (ownFrom_below (Nat.le_refl _) (by omega)))
    (fun c => OwnFrom.and (Own.from (fun s A B row hs hg hr => ⟨hs.1, cells_kept hs.2.1 hg hr, hs.2.2⟩) _) (ownFrom_below (Nat.le_refl _) (by omega)))
    ⟨⟨hx82, hxx2, by simp⟩, hbx2⟩
    (fun z => { tmps := #[calV ha hl hc sa sl sc, .int .i64 x, .pointer (some ⟨w.heap.size, 0, none⟩), .pointer (some ⟨w.heap.size + 1, 0, none⟩), .bool false, .int .i64 0, .pointer (some ⟨w1.heap.size, 0, none⟩), .int .i64 0, .pointer (some ⟨w1.heap.size + 1, 0, none⟩), .int .i64 z.1, .tuple #[dateV y m d, .int .i64 0], .agg #[.slice ha hl hc, .slice sa sl sc], .int .i64 x, .tuple #[dateV y m d, .int .i64 0], dateV y m d, .int .i64 0, .int .i64 0, .bool false, undef, .agg #[.slice ha hl hc, .slice sa sl sc], .pointer (some ⟨w1.heap.size, 0, none⟩), .int .i64 y, .func (.func 57) #[] #[.pointer (some ⟨X.heap.size, 0, none⟩), .pointer (some ⟨X.heap.size + 1, 0, none⟩)], .int .i64 z.1, undef, undef, undef, undef], defers := [] }) ?assign ?body ?done ?stop
  case assign =>
    intro l z W K hK
    unfold encE
    gi_wp2
    exact hK
  case body =>
    rintro l pre z W ⟨⟨h8, hx, hall⟩, hB⟩ hlt
    have c8 : W.cell? ⟨w1.heap.size + 1, 0, none⟩ = some (.bool false) := cell_of_row _ _ 0 _ _ _ h8
    have f8 := frozen_of_row W (w1.heap.size + 1) 0 _ _ h8
    have cx : W.cell? ⟨w.heap.size + 1, 0, none⟩ = some (.int .i64 x) := cell_of_row _ _ 0 _ _ _ hx
    have H8 := Lib.hid h8
    have HX := Lib.hid hx
    have HA := Lib.hid hall
    have HB := Lib.hid hB
    clear h8 hx hall hB
    obtain ⟨zv, hzb⟩ := z
    by_cases hz : zv = x
    · have g : (zv == x) = true := by simp [hz]
      gi_wp2
      exact ⟨(KeepsOthers.setCell _ _ _).from _, ⟨⟨⟨zv, hzb⟩, by simp, hz⟩, heap_setCell_same W (w1.heap.size + 1) 0 _ _ (.bool true) H8.out, rfl⟩, HB.out.setCell (p := ⟨w1.heap.size + 1, 0, none⟩) (by show w.heap.size ≤ w1.heap.size + 1; omega) _⟩
    · have g : (zv == x) = false := by simp [hz]
      gi_wp2
      exact ⟨KeepsFrom.refl _ _, Below.refl _ _, ⟨H8.out, HX.out, fun q hq => by
        rcases List.mem_append.1 hq with h | h
        · exact HA.out q h
        · rw [List.mem_singleton.1 h]; exact hz⟩, HB.out⟩
  case done =>
    rintro DD ys W hD rfl ⟨⟨h8, hx, hall⟩, hB⟩ hK
    have c8 : W.cell? ⟨w1.heap.size + 1, 0, none⟩ = some (.bool false) := cell_of_row _ _ 0 _ _ _ h8
    have hdec : decide (x ∈ hds H y hl) = false := decide_eq_false (fun hm => by
      rw [← hdL_map hy0 hy1 hl] at hm
      obtain ⟨z, hz1, hz2⟩ := List.mem_map.1 hm
      exact hall z hz1 hz2)
    have HD := Lib.hid hdec
    have HB := Lib.hid hB
    have HK := Lib.hid hK
    clear h8 hx hall hB hK hdec
    gi_wp2
    rw [Exit.noGoto_ret]
    refine ⟨by simp, .inl ⟨_, _, rfl, run_takeDeferred HK.out, ?_⟩⟩
    exact ⟨_, results_tmp2 rfl _ _ _, by rw [HD.out]; rfl, HB.out.trans (belowK_b (w := w) (Nat.le_refl _) _ DD _ _ (by omega) HK.out rfl rfl)⟩
  case stop =>
    rintro DD c pre W hD hpre ⟨⟨⟨z, hz1, hz2⟩, h8, rfl⟩, hB⟩ hK
    have c8 : W.cell? ⟨w1.heap.size + 1, 0, none⟩ = some (.bool true) := cell_of_row _ _ 0 _ _ _ h8
    have hdec : decide (x ∈ hds H y hl) = true := decide_eq_true (by
      rw [← hdL_map hy0 hy1 hl, ← hz2]
      exact List.mem_map_of_mem (hpre.subset hz1))
    have HD := Lib.hid hdec
    have HB := Lib.hid hB
    have HK := Lib.hid hK
    clear h8 hz1 hz2 hpre hB hK hdec
    gi_wp2
    rw [Exit.noGoto_ret]
    refine ⟨by simp, .inl ⟨_, _, rfl, run_takeDeferred HK.out, ?_⟩⟩
    exact ⟨_, results_tmp2 rfl _ _ _, by rw [HD.out]; rfl, HB.out.trans (belowK_b (w := w) (Nat.le_refl _) _ DD _ _ (by omega) HK.out rfl rfl)⟩
end Go.Proofs.YtgedcfgmfhlkdaaDoor
