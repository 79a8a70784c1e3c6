/- The program's Share. -/
import Derived.Test.YtmbimnphdhmapaaDoorBFind
import Derived.Test.YtmbimnphdhmapaaDoorKStill
import Derived.Sort.CutIn
set_option linter.unusedVariables false
set_option linter.unusedSimpArgs false
namespace Go.Proofs.YtmbimnphdhmapaaDoor
open Go.RowKit Go.Shelf
attribute [local go_sem] Oper.semAt_some
def shC (f : Int → Int) : Array Value := #[.int .i64 (f 0), .int .i64 (f 1), .int .i64 (f 2), .int .i64 (f 3), .int .i64 (f 4), .int .i64 (f 5), .int .i64 (f 6), .int .i64 (f 7)]
abbrev z8 : Array Value := #[.int .i64 0, .int .i64 0, .int .i64 0, .int .i64 0, .int .i64 0, .int .i64 0, .int .i64 0, .int .i64 0]
theorem below_drew (W : World) : Below W.heap.size W W.drew := ⟨rfl, rfl, rfl, Nat.le_refl _, fun _ _ => rfl⟩
theorem below_drew1 {B : Nat} {w X : World} (h : Below B w X) : Below B w X.drew := ⟨h.os, h.tape, h.output, h.size, h.block⟩
theorem sum_nonneg {l : List St} {b : Int} (h : ∀ s ∈ l, s.b ≤ s.e) : 0 ≤ mins l b := by
  induction l with
  | nil => exact Int.le_refl _
  | cons s r ih =>
    have h1 := h s (by simp)
    have h2 := ih (fun t ht => h t (by simp [ht]))
    unfold mins
    split <;> omega
theorem mins_append (l r : List St) (b : Int) : mins (l ++ r) b = mins l b + mins r b := by
  induction l with
  | nil => simp [mins]
  | cons s l ih => rw [List.cons_append, mins, mins, ih]; omega
theorem mins_pre {L : Nat → Sw} {len : Nat} (hp : PlanIs L len) {pre : List St} {s : St} (h : pre ++ [s] <+: strs L len) (b : Nat) : 0 ≤ mins pre b ∧ mins pre b ≤ 1440 := by
  obtain ⟨r, hr⟩ := h
  have hall : ∀ t ∈ strs L len, t.b ≤ t.e := fun t ht => by have := strs_in hp ht; omega
  have h1 := mins_all hp b
  have h2 := cntN_le L len b 1440
  rw [← hr, List.append_assoc, mins_append] at h1
  have h3 : 0 ≤ mins pre b := sum_nonneg (fun t ht => hall t (by rw [← hr]; simp [ht]))
  have h4 : 0 ≤ mins ([s] ++ r) b := sum_nonneg (fun t ht => hall t (by rw [← hr, List.append_assoc]; exact List.mem_append_right _ ht))
  omega
theorem results_pshare {cs : Array Value} {b : Nat} {tmps : Array Value} {w : World} (h2 : tmps.getD 2 undef = .pointer (some ⟨b, 0, none⟩))
    (hb : w.heap[b]? = some (.cells cs 66 (0, 0))) (hs : cs.size = 8) : (results Tryd.f30 tmps).run Tryd.prog w = .ok (.agg cs) w := by
  obtain ⟨l⟩ := cs
  match l, hs with
  | [x0, x1, x2, x3, x4, x5, x6, x7], _ =>
    simp only [Array.getD_eq_getD_getElem?] at h2
    have c0 : w.cell? ⟨b, 0, none⟩ = some x0 := cell_of_row w b 0 _ _ _ hb
    have c1 : w.cell? ⟨b, 1, none⟩ = some x1 := cell_of_row w b 1 _ _ _ hb
    have c2 : w.cell? ⟨b, 2, none⟩ = some x2 := cell_of_row w b 2 _ _ _ hb
    have c3 : w.cell? ⟨b, 3, none⟩ = some x3 := cell_of_row w b 3 _ _ _ hb
    have c4 : w.cell? ⟨b, 4, none⟩ = some x4 := cell_of_row w b 4 _ _ _ hb
    have c5 : w.cell? ⟨b, 5, none⟩ = some x5 := cell_of_row w b 5 _ _ _ hb
    have c6 : w.cell? ⟨b, 6, none⟩ = some x6 := cell_of_row w b 6 _ _ _ hb
    have c7 : w.cell? ⟨b, 7, none⟩ = some x7 := cell_of_row w b 7 _ _ _ hb
    simp [results, Tryd.results30, go_sem, h2, c0, c1, c2, c3, c4, c5, c6, c7]
theorem set8 {Z : World} {B : Nat} {cs : Array Value} {T : TypeId} (h : Z.heap[B]? = some (.cells cs T (0, 0))) (hs : cs.size = 8) (x0 x1 x2 x3 x4 x5 x6 x7 : Value) :
    ((((((((Z.setCell ⟨B, 0, none⟩ x0).setCell ⟨B, 1, none⟩ x1).setCell ⟨B, 2, none⟩ x2).setCell ⟨B, 3, none⟩ x3).setCell ⟨B, 4, none⟩ x4).setCell ⟨B, 5, none⟩ x5).setCell ⟨B, 6, none⟩ x6).setCell ⟨B, 7, none⟩ x7).heap[B]? = some (.cells #[x0, x1, x2, x3, x4, x5, x6, x7] T (0, 0)) := by
  obtain ⟨l⟩ := cs
  match l, hs with
  | [y0, y1, y2, y3, y4, y5, y6, y7], _ =>
    have h0 : (Z.setCell ⟨B, 0, none⟩ x0).heap[B]? = some (.cells #[x0, y1, y2, y3, y4, y5, y6, y7] T (0, 0)) := heap_setCell_same _ B 0 _ _ _ h
    have h1 : ((Z.setCell ⟨B, 0, none⟩ x0).setCell ⟨B, 1, none⟩ x1).heap[B]? = some (.cells #[x0, x1, y2, y3, y4, y5, y6, y7] T (0, 0)) := heap_setCell_same _ B 1 _ _ _ h0
    have h2 : (((Z.setCell ⟨B, 0, none⟩ x0).setCell ⟨B, 1, none⟩ x1).setCell ⟨B, 2, none⟩ x2).heap[B]? = some (.cells #[x0, x1, x2, y3, y4, y5, y6, y7] T (0, 0)) := heap_setCell_same _ B 2 _ _ _ h1
    have h3 : ((((Z.setCell ⟨B, 0, none⟩ x0).setCell ⟨B, 1, none⟩ x1).setCell ⟨B, 2, none⟩ x2).setCell ⟨B, 3, none⟩ x3).heap[B]? = some (.cells #[x0, x1, x2, x3, y4, y5, y6, y7] T (0, 0)) := heap_setCell_same _ B 3 _ _ _ h2
    have h4 : (((((Z.setCell ⟨B, 0, none⟩ x0).setCell ⟨B, 1, none⟩ x1).setCell ⟨B, 2, none⟩ x2).setCell ⟨B, 3, none⟩ x3).setCell ⟨B, 4, none⟩ x4).heap[B]? = some (.cells #[x0, x1, x2, x3, x4, y5, y6, y7] T (0, 0)) := heap_setCell_same _ B 4 _ _ _ h3
    have h5 : ((((((Z.setCell ⟨B, 0, none⟩ x0).setCell ⟨B, 1, none⟩ x1).setCell ⟨B, 2, none⟩ x2).setCell ⟨B, 3, none⟩ x3).setCell ⟨B, 4, none⟩ x4).setCell ⟨B, 5, none⟩ x5).heap[B]? = some (.cells #[x0, x1, x2, x3, x4, x5, y6, y7] T (0, 0)) := heap_setCell_same _ B 5 _ _ _ h4
    have h6 : (((((((Z.setCell ⟨B, 0, none⟩ x0).setCell ⟨B, 1, none⟩ x1).setCell ⟨B, 2, none⟩ x2).setCell ⟨B, 3, none⟩ x3).setCell ⟨B, 4, none⟩ x4).setCell ⟨B, 5, none⟩ x5).setCell ⟨B, 6, none⟩ x6).heap[B]? = some (.cells #[x0, x1, x2, x3, x4, x5, x6, y7] T (0, 0)) := heap_setCell_same _ B 6 _ _ _ h5
    have h7 : ((((((((Z.setCell ⟨B, 0, none⟩ x0).setCell ⟨B, 1, none⟩ x1).setCell ⟨B, 2, none⟩ x2).setCell ⟨B, 3, none⟩ x3).setCell ⟨B, 4, none⟩ x4).setCell ⟨B, 5, none⟩ x5).setCell ⟨B, 6, none⟩ x6).setCell ⟨B, 7, none⟩ x7).heap[B]? = some (.cells #[x0, x1, x2, x3, x4, x5, x6, x7] T (0, 0)) := heap_setCell_same _ B 7 _ _ _ h6
    exact h7
theorem set8_other {Z : World} {B C : Nat} (hne : C ≠ B) (x0 x1 x2 x3 x4 x5 x6 x7 : Value) : ((((((((Z.setCell ⟨B, 0, none⟩ x0).setCell ⟨B, 1, none⟩ x1).setCell ⟨B, 2, none⟩ x2).setCell ⟨B, 3, none⟩ x3).setCell ⟨B, 4, none⟩ x4).setCell ⟨B, 5, none⟩ x5).setCell ⟨B, 6, none⟩ x6).setCell ⟨B, 7, none⟩ x7).heap[C]? = Z.heap[C]? :=
  (heap_setCell_other _ ⟨B, 7, none⟩ C _ hne).trans ((heap_setCell_other _ ⟨B, 6, none⟩ C _ hne).trans ((heap_setCell_other _ ⟨B, 5, none⟩ C _ hne).trans ((heap_setCell_other _ ⟨B, 4, none⟩ C _ hne).trans ((heap_setCell_other _ ⟨B, 3, none⟩ C _ hne).trans ((heap_setCell_other _ ⟨B, 2, none⟩ C _ hne).trans ((heap_setCell_other _ ⟨B, 1, none⟩ C _ hne).trans (heap_setCell_other _ ⟨B, 0, none⟩ C _ hne)))))))
theorem set8_below {Z w : World} {B n : Nat} (h : Below n w Z) (hB : n ≤ B) (x0 x1 x2 x3 x4 x5 x6 x7 : Value) : Below n w ((((((((Z.setCell ⟨B, 0, none⟩ x0).setCell ⟨B, 1, none⟩ x1).setCell ⟨B, 2, none⟩ x2).setCell ⟨B, 3, none⟩ x3).setCell ⟨B, 4, none⟩ x4).setCell ⟨B, 5, none⟩ x5).setCell ⟨B, 6, none⟩ x6).setCell ⟨B, 7, none⟩ x7) :=
  (((((((h.setCell (p := ⟨B, 0, none⟩) hB _).setCell (p := ⟨B, 1, none⟩) hB _).setCell (p := ⟨B, 2, none⟩) hB _).setCell (p := ⟨B, 3, none⟩) hB _).setCell (p := ⟨B, 4, none⟩) hB _).setCell (p := ⟨B, 5, none⟩) hB _).setCell (p := ⟨B, 6, none⟩) hB _).setCell (p := ⟨B, 7, none⟩) hB _
theorem cells8 {W : World} {B : Nat} {x0 x1 x2 x3 x4 x5 x6 x7 : Value} {T : TypeId} {fr : Nat × Nat} (h : W.heap[B]? = some (.cells #[x0, x1, x2, x3, x4, x5, x6, x7] T fr)) :
    W.cell? ⟨B, 0, none⟩ = some x0 ∧ W.cell? ⟨B, 1, none⟩ = some x1 ∧ W.cell? ⟨B, 2, none⟩ = some x2 ∧ W.cell? ⟨B, 3, none⟩ = some x3 ∧ W.cell? ⟨B, 4, none⟩ = some x4 ∧ W.cell? ⟨B, 5, none⟩ = some x5 ∧ W.cell? ⟨B, 6, none⟩ = some x6 ∧ W.cell? ⟨B, 7, none⟩ = some x7 :=
  ⟨cell_of_row W B 0 _ _ _ h, cell_of_row W B 1 _ _ _ h, cell_of_row W B 2 _ _ _ h, cell_of_row W B 3 _ _ _ h, cell_of_row W B 4 _ _ _ h, cell_of_row W B 5 _ _ _ h, cell_of_row W B 6 _ _ _ h, cell_of_row W B 7 _ _ _ h⟩
theorem frozen8 {W : World} {B : Nat} {x0 x1 x2 x3 x4 x5 x6 x7 : Value} {T : TypeId} (h : W.heap[B]? = some (.cells #[x0, x1, x2, x3, x4, x5, x6, x7] T (0, 0))) :
    W.frozen? ⟨B, 0, none⟩ = false ∧ W.frozen? ⟨B, 1, none⟩ = false ∧ W.frozen? ⟨B, 2, none⟩ = false ∧ W.frozen? ⟨B, 3, none⟩ = false ∧ W.frozen? ⟨B, 4, none⟩ = false ∧ W.frozen? ⟨B, 5, none⟩ = false ∧ W.frozen? ⟨B, 6, none⟩ = false ∧ W.frozen? ⟨B, 7, none⟩ = false :=
  ⟨frozen_of_row W B 0 _ _ h, frozen_of_row W B 1 _ _ h, frozen_of_row W B 2 _ _ h, frozen_of_row W B 3 _ _ h, frozen_of_row W B 4 _ _ h, frozen_of_row W B 5 _ _ h, frozen_of_row W B 6 _ _ h, frozen_of_row W B 7 _ _ h⟩
set_option maxRecDepth 100000 in
set_option maxHeartbeats 4000000 in
theorem share_no (a : Option Addr) (len cap : Nat) (L : Nat → Sw) (w : World) (hA : SwsAt w.heap.size w a len L) (hlm : len ≤ maxLen) (hp : ¬ PlanIs L len) :
    Calls Tryd.prog 30 #[.slice a len cap] w fun e w' => e = .returned (.agg z8) ∧ Below w.heap.size w w' := by
  have hb0 := ((Below.refl _ w).alloc (Nat.le_refl _) (.cells #[.int .i64 0, .int .i64 0, .int .i64 0, .int .i64 0, .int .i64 0, .int .i64 0, .int .i64 0, .int .i64 0] 66)).alloc (by simp) (.cells #[.int .i64 0, .int .i64 0, .int .i64 0, .int .i64 0, .int .i64 0, .int .i64 0, .int .i64 0, .int .i64 0] 66)
  have hzr := heap_old (heap_alloc_new w (.cells #[.int .i64 0, .int .i64 0, .int .i64 0, .int .i64 0, .int .i64 0, .int .i64 0, .int .i64 0, .int .i64 0] 66)) (.cells #[.int .i64 0, .int .i64 0, .int .i64 0, .int .i64 0, .int .i64 0, .int .i64 0, .int .i64 0, .int .i64 0] 66)
  have hzs := heap_alloc_new (w.alloc (.cells #[.int .i64 0, .int .i64 0, .int .i64 0, .int .i64 0, .int .i64 0, .int .i64 0, .int .i64 0, .int .i64 0] 66)) (.cells #[.int .i64 0, .int .i64 0, .int .i64 0, .int .i64 0, .int .i64 0, .int .i64 0, .int .i64 0, .int .i64 0] 66)
  rw [World.size_alloc] at hzs
  have hsz : ((w.alloc (.cells #[.int .i64 0, .int .i64 0, .int .i64 0, .int .i64 0, .int .i64 0, .int .i64 0, .int .i64 0, .int .i64 0] 66)).alloc (.cells #[.int .i64 0, .int .i64 0, .int .i64 0, .int .i64 0, .int .i64 0, .int .i64 0, .int .i64 0, .int .i64 0] 66)).heap.size = w.heap.size + 2 := by simp [World.size_alloc]
  have hck := checkPlan_any a len cap L _ ((hA.next hb0 (Nat.le_refl _) (Nat.le_refl _)).mono hb0.size) hlm
  rw [pErr_no hp] at hck
  have HCK := Lib.hid hck
  have HB0 := Lib.hid hb0
  have HZR := Lib.hid hzr
  have HZS := Lib.hid hzs
  have HSZ := Lib.hid hsz
  have HA := Lib.hid hA
  have HP := Lib.hid hp
  clear hb0 hzr hzs hsz hA hlm hck hp
  refine (callsIn_wide (n := 4)).1 ?_
  refine callsIn_of_wp_marks Tryd.func30 rfl trivial ?_ rfl
  simp only [Tryd.ntmps30, List.size_toArray, List.length_cons, List.length_nil, Nat.reduceAdd, Nat.reduceSub, Array.replicate_succ, Array.replicate_zero, List.push_toArray, List.append_toArray, List.nil_append, List.cons_append]
  gi_wp2_with fail
  refine ⟨trivial, ?_⟩
  refine (callsIn_wide.2 HCK.out).mono ?_
  rintro e w1 ⟨rfl, hB1⟩
  have hs1 := hB1.size
  rw [HSZ.out] at hs1
  have zr1 := (hB1.block w.heap.size (by rw [HSZ.out]; omega)).trans HZR.out
  have zs1 := (hB1.block (w.heap.size + 1) (by rw [HSZ.out]; omega)).trans HZS.out
  have hb1 := HB0.out.trans (hB1.mono HB0.out.size)
  obtain ⟨r0, r1, r2, r3, r4, r5, r6, r7⟩ := cells8 zr1
  obtain ⟨f0, f1, f2, f3, f4, f5, f6, f7⟩ := frozen8 zr1
  obtain ⟨s0, s1, s2, s3, s4, s5, s6, s7⟩ := cells8 zs1
  have HR := Lib.hid zr1
  have HB1 := Lib.hid hb1
  clear zr1 zs1 hb1 hB1 HZS HZR HB0 HCK
  gi_wp2
  exact ⟨_, results_pshare (cs := z8) rfl (set8 HR.out rfl _ _ _ _ _ _ _ _) rfl, rfl, set8_below HB1.out (by omega) _ _ _ _ _ _ _ _⟩
set_option maxRecDepth 100000 in
set_option maxHeartbeats 4000000 in
theorem share_yes (a : Option Addr) (len cap : Nat) (L : Nat → Sw) (w : World) (hA : SwsAt w.heap.size w a len L) (hlm : len ≤ maxLen) (hp : PlanIs L len) :
    Calls Tryd.prog 30 #[.slice a len cap] w fun e w' => e = .returned (.agg (shC (mins (strs L len)))) ∧ Below w.heap.size w w' := by
  have hb0 := ((Below.refl _ w).alloc (Nat.le_refl _) (.cells #[.int .i64 0, .int .i64 0, .int .i64 0, .int .i64 0, .int .i64 0, .int .i64 0, .int .i64 0, .int .i64 0] 66)).alloc (by simp) (.cells #[.int .i64 0, .int .i64 0, .int .i64 0, .int .i64 0, .int .i64 0, .int .i64 0, .int .i64 0, .int .i64 0] 66)
  have hzr := heap_old (heap_alloc_new w (.cells #[.int .i64 0, .int .i64 0, .int .i64 0, .int .i64 0, .int .i64 0, .int .i64 0, .int .i64 0, .int .i64 0] 66)) (.cells #[.int .i64 0, .int .i64 0, .int .i64 0, .int .i64 0, .int .i64 0, .int .i64 0, .int .i64 0, .int .i64 0] 66)
  have hzs := heap_alloc_new (w.alloc (.cells #[.int .i64 0, .int .i64 0, .int .i64 0, .int .i64 0, .int .i64 0, .int .i64 0, .int .i64 0, .int .i64 0] 66)) (.cells #[.int .i64 0, .int .i64 0, .int .i64 0, .int .i64 0, .int .i64 0, .int .i64 0, .int .i64 0, .int .i64 0] 66)
  rw [World.size_alloc] at hzs
  have hsz : ((w.alloc (.cells #[.int .i64 0, .int .i64 0, .int .i64 0, .int .i64 0, .int .i64 0, .int .i64 0, .int .i64 0, .int .i64 0] 66)).alloc (.cells #[.int .i64 0, .int .i64 0, .int .i64 0, .int .i64 0, .int .i64 0, .int .i64 0, .int .i64 0, .int .i64 0] 66)).heap.size = w.heap.size + 2 := by simp [World.size_alloc]
  have hck := checkPlan_any a len cap L _ ((hA.next hb0 (Nat.le_refl _) (Nat.le_refl _)).mono hb0.size) hlm
  rw [pErr_yes hp] at hck
  have HCK := Lib.hid hck
  have HB0 := Lib.hid hb0
  have HZR := Lib.hid hzr
  have HZS := Lib.hid hzs
  have HSZ := Lib.hid hsz
  have HA := Lib.hid hA
  have HP := Lib.hid hp
  clear hb0 hzr hzs hsz hA hlm hck hp
  refine (callsIn_wide (n := 4)).1 ?_
  refine callsIn_of_wp_marks Tryd.func30 rfl trivial ?_ rfl
  simp only [Tryd.ntmps30, List.size_toArray, List.length_cons, List.length_nil, Nat.reduceAdd, Nat.reduceSub, Array.replicate_succ, Array.replicate_zero, List.push_toArray, List.append_toArray, List.nil_append, List.cons_append]
  gi_wp2_with fail
  refine ⟨trivial, ?_⟩
  refine (callsIn_wide.2 HCK.out).mono ?_
  rintro e w1 ⟨rfl, hB1⟩
  have hs1 := hB1.size
  rw [HSZ.out] at hs1
  have zr1 := (hB1.block w.heap.size (by rw [HSZ.out]; omega)).trans HZR.out
  have zs1 := (hB1.block (w.heap.size + 1) (by rw [HSZ.out]; omega)).trans HZS.out
  have hb1 := HB0.out.trans (hB1.mono HB0.out.size)
  have HR := Lib.hid zr1
  have HS := Lib.hid zs1
  have HB1 := Lib.hid hb1
  clear zr1 zs1 hb1 hB1 HZS HZR HB0 HCK
  gi_wp2_with (refine ⟨trivial, ?_⟩; gi_at_call 33; refine (stretchesOf_in _ _ _ _ _).mono ?_; rintro e w' ⟨rfl, rfl⟩)
  have xr := heap_old HR.out (.cells #[.slice a len cap] 22)
  have xs := heap_old HS.out (.cells #[.slice a len cap] 22)
  have xb := heap_alloc_new w1 (.cells #[.slice a len cap] 22)
  have xsz : (w1.alloc (.cells #[.slice a len cap] 22)).heap.size = w1.heap.size + 1 := World.size_alloc _ _
  have xw : Below w.heap.size w (w1.alloc (.cells #[.slice a len cap] 22)) := HB1.out.alloc HB1.out.size _
  obtain ⟨X, hX⟩ : ∃ X, w1.alloc (.cells #[.slice a len cap] 22) = X := ⟨_, rfl⟩
  rw [hX] at xr xs xb xsz xw ⊢
  have hA2 : SwsAt w.heap.size X a len L := HA.out.next xw (Nat.le_refl _) (Nat.le_refl _)
  clear hX HS HR HB1
  refine wpIn_rangeFunc_mine (gf := 43) (lb := #[.pointer (some ⟨w1.heap.size, 0, none⟩)]) rfl (enters_of Tryd.func43 (by kernel_rfl) rfl)
    (strs L len) encS (fun j => j = w.heap.size + 1) 0 39
    (str_seq (4 - 1) (by omega) w1.heap.size w.heap.size a len cap L HP.out _ X (fun j hj => ⟨by omega, by omega, by omega⟩) xw.size xb hA2) (fun _ => rfl) (fun j hj => by omega)
    (fun pre W => (W.heap[w.heap.size]? = some (.cells z8 66 (0, 0)) ∧ W.heap[w.heap.size + 1]? = some (.cells (shC (mins pre)) 66 (0, 0))) ∧ Below w.heap.size w W)
    (fun pre W => False)
    (fun pre => ((steady_block _ _ _ _ (by omega)).and (steady_block _ _ _ _ (by omega))).and (steady_below _ _ _ _ (by omega) (Nat.le_refl _)))
    (fun pre => steady_pure _ _ _)
    ⟨⟨xr, xs⟩, xw⟩
    (fun pre s a₁ W => ∃ Bx, X.heap.size + 3 ≤ Bx ∧ W.heap[Bx]? = some (.cells (stC s) 71 (0, 0)) ∧ a₁ = { tmps := #[.slice a len cap, undef, .pointer (some ⟨w.heap.size, 0, none⟩), .pointer (some ⟨w.heap.size + 1, 0, none⟩), .pointer (some ⟨Bx, 0, none⟩), .slice a len cap, .int .i64 0, .bool false, undef, .slice a len cap, .func (.func 43) #[] #[.pointer (some ⟨w1.heap.size, 0, none⟩)], stV s, undef, undef, undef, undef, undef, undef, undef, undef, undef, undef, undef, undef], defers := [] })
    (fun pre s a₁ X' Y row hs hg hr => let ⟨Bx, e1, e2, e3⟩ := hs; ⟨Bx, e1, steady_block X.heap.size (X.heap.size + 2) _ _ (by omega) X' Y row e2 hg hr, e3⟩)
    ?assign ?body ?done ?stop
  case assign =>
    intro l pre s W K hsz hpre hI hK
    unfold encS
    gi_wp2
    exact hK _ _ ((Only.refl _ _ _).alloc hsz _) ((KT.refl _ _).alloc _) ⟨⟨heap_old hI.1.1 _, heap_old hI.1.2 _⟩, hI.2.alloc hI.2.size _⟩ ⟨W.heap.size, hsz, heap_alloc_new W _, rfl⟩
  case body =>
    rintro l pre s a₁ W hsz hpre ⟨⟨ir, is⟩, hB⟩ ⟨Bx, hBx, hbx, rfl⟩
    have hin := strs_in HP.out (hpre.subset (by simp) : s ∈ strs L len)
    have hm := fun b : Nat => mins_pre HP.out hpre b
    obtain ⟨sb, se, sd⟩ := s
    simp only at hin
    obtain ⟨i0, i1, i2, i3, i4⟩ := hin
    have HSN := Lib.hid (fun j => mins_snoc pre ⟨sb, se, sd⟩ j)
    obtain ⟨k0, k1, k2⟩ := cells3 hbx
    have hd0 : W.drew.cell? ⟨Bx, 0, none⟩ = some (.int .i64 sb) := k0
    have hd1 : W.drew.cell? ⟨Bx, 1, none⟩ = some (.int .i64 se) := k1
    have hd2 : W.drew.cell? ⟨Bx, 2, none⟩ = some (.int .i64 sd) := k2
    have HIR := Lib.hid ir
    have HIS := Lib.hid is
    have HB := Lib.hid hB
    have hmx : Tryd.prog.follows .mixedOrders = true := by kernel_rfl
    clear hB ir hbx xr xs xb xw hA2
    rcases (by omega : sd = 0 ∨ sd = 1 ∨ sd = 2 ∨ sd = 3 ∨ sd = 4 ∨ sd = 5 ∨ sd = 6 ∨ sd = 7) with rfl | rfl | rfl | rfl | rfl | rfl | rfl | rfl
    · obtain ⟨m0, m1⟩ : 0 ≤ mins pre 0 ∧ mins pre 0 ≤ 1440 := hm 0
      have q0 : W.cell? ⟨w.heap.size + 1, 0, none⟩ = some (.int .i64 (mins pre 0)) := cell_of_row _ _ 0 _ _ _ is
      have qf : W.frozen? ⟨w.heap.size + 1, 0, none⟩ = false := frozen_of_row _ _ 0 _ _ is
      obtain ⟨m, hm2⟩ : ∃ m, mins pre 0 = m := ⟨_, rfl⟩
      rw [hm2] at q0 m0 m1
      have HM := Lib.hid hm2
      clear hm hm2 is
      gi_upto_region 6 with (fail)
      refine regionIn_tail (wide_round _ _ _) 11 hmx (by kernel_rfl) rfl ?_
      simp only [List.take_succ_cons, List.take_zero, List.drop_succ_cons, List.drop_zero]
      repeat still_step
      refine wpStill_nil ?_
      gi_wp2
      refine ⟨⟨by simp, fun k hk hs => (heap_setCell_other _ ⟨w.heap.size + 1, 0, none⟩ k _ hs)⟩, (KT.of (below_drew _)).setCell _ (by exact HIS.out) (by decide), ⟨(heap_setCell_other _ ⟨w.heap.size + 1, 0, none⟩ w.heap.size _ (by show w.heap.size ≠ w.heap.size + 1; omega)).trans HIR.out, ?_⟩, ?_⟩
      · have h := heap_setCell_same W.drew (w.heap.size + 1) 0 _ _ (.int .i64 (m + (se - sb))) HIS.out
        rw [show shC (mins (pre ++ [⟨sb, se, 0⟩])) = (shC (mins pre)).setIfInBounds 0 (.int .i64 (m + (se - sb))) by simp [shC, HSN.out, HM.out]]
        exact h
      · exact (below_drew1 HB.out).setCell (p := ⟨w.heap.size + 1, 0, none⟩) (by show w.heap.size ≤ w.heap.size + 1; omega) _
    · obtain ⟨m0, m1⟩ : 0 ≤ mins pre 1 ∧ mins pre 1 ≤ 1440 := hm 1
      have q0 : W.cell? ⟨w.heap.size + 1, 1, none⟩ = some (.int .i64 (mins pre 1)) := cell_of_row _ _ 1 _ _ _ is
      have qf : W.frozen? ⟨w.heap.size + 1, 1, none⟩ = false := frozen_of_row _ _ 1 _ _ is
      obtain ⟨m, hm2⟩ : ∃ m, mins pre 1 = m := ⟨_, rfl⟩
      rw [hm2] at q0 m0 m1
      have HM := Lib.hid hm2
      clear hm hm2 is
      gi_upto_region 6 with (fail)
      refine regionIn_tail (wide_round _ _ _) 11 hmx (by kernel_rfl) rfl ?_
      simp only [List.take_succ_cons, List.take_zero, List.drop_succ_cons, List.drop_zero]
      repeat still_step
      refine wpStill_nil ?_
      gi_wp2
      refine ⟨⟨by simp, fun k hk hs => (heap_setCell_other _ ⟨w.heap.size + 1, 1, none⟩ k _ hs)⟩, (KT.of (below_drew _)).setCell _ (by exact HIS.out) (by decide), ⟨(heap_setCell_other _ ⟨w.heap.size + 1, 1, none⟩ w.heap.size _ (by show w.heap.size ≠ w.heap.size + 1; omega)).trans HIR.out, ?_⟩, ?_⟩
      · have h := heap_setCell_same W.drew (w.heap.size + 1) 1 _ _ (.int .i64 (m + (se - sb))) HIS.out
        rw [show shC (mins (pre ++ [⟨sb, se, 1⟩])) = (shC (mins pre)).setIfInBounds 1 (.int .i64 (m + (se - sb))) by simp [shC, HSN.out, HM.out]]
        exact h
      · exact (below_drew1 HB.out).setCell (p := ⟨w.heap.size + 1, 1, none⟩) (by show w.heap.size ≤ w.heap.size + 1; omega) _
    · obtain ⟨m0, m1⟩ : 0 ≤ mins pre 2 ∧ mins pre 2 ≤ 1440 := hm 2
      have q0 : W.cell? ⟨w.heap.size + 1, 2, none⟩ = some (.int .i64 (mins pre 2)) := cell_of_row _ _ 2 _ _ _ is
      have qf : W.frozen? ⟨w.heap.size + 1, 2, none⟩ = false := frozen_of_row _ _ 2 _ _ is
      obtain ⟨m, hm2⟩ : ∃ m, mins pre 2 = m := ⟨_, rfl⟩
      rw [hm2] at q0 m0 m1
      have HM := Lib.hid hm2
      clear hm hm2 is
      gi_upto_region 6 with (fail)
      refine regionIn_tail (wide_round _ _ _) 11 hmx (by kernel_rfl) rfl ?_
      simp only [List.take_succ_cons, List.take_zero, List.drop_succ_cons, List.drop_zero]
      repeat still_step
      refine wpStill_nil ?_
      gi_wp2
      refine ⟨⟨by simp, fun k hk hs => (heap_setCell_other _ ⟨w.heap.size + 1, 2, none⟩ k _ hs)⟩, (KT.of (below_drew _)).setCell _ (by exact HIS.out) (by decide), ⟨(heap_setCell_other _ ⟨w.heap.size + 1, 2, none⟩ w.heap.size _ (by show w.heap.size ≠ w.heap.size + 1; omega)).trans HIR.out, ?_⟩, ?_⟩
      · have h := heap_setCell_same W.drew (w.heap.size + 1) 2 _ _ (.int .i64 (m + (se - sb))) HIS.out
        rw [show shC (mins (pre ++ [⟨sb, se, 2⟩])) = (shC (mins pre)).setIfInBounds 2 (.int .i64 (m + (se - sb))) by simp [shC, HSN.out, HM.out]]
        exact h
      · exact (below_drew1 HB.out).setCell (p := ⟨w.heap.size + 1, 2, none⟩) (by show w.heap.size ≤ w.heap.size + 1; omega) _
    · obtain ⟨m0, m1⟩ : 0 ≤ mins pre 3 ∧ mins pre 3 ≤ 1440 := hm 3
      have q0 : W.cell? ⟨w.heap.size + 1, 3, none⟩ = some (.int .i64 (mins pre 3)) := cell_of_row _ _ 3 _ _ _ is
      have qf : W.frozen? ⟨w.heap.size + 1, 3, none⟩ = false := frozen_of_row _ _ 3 _ _ is
      obtain ⟨m, hm2⟩ : ∃ m, mins pre 3 = m := ⟨_, rfl⟩
      rw [hm2] at q0 m0 m1
      have HM := Lib.hid hm2
      clear hm hm2 is
      gi_upto_region 6 with (fail)
      refine regionIn_tail (wide_round _ _ _) 11 hmx (by kernel_rfl) rfl ?_
      simp only [List.take_succ_cons, List.take_zero, List.drop_succ_cons, List.drop_zero]
      repeat still_step
      refine wpStill_nil ?_
      gi_wp2
      refine ⟨⟨by simp, fun k hk hs => (heap_setCell_other _ ⟨w.heap.size + 1, 3, none⟩ k _ hs)⟩, (KT.of (below_drew _)).setCell _ (by exact HIS.out) (by decide), ⟨(heap_setCell_other _ ⟨w.heap.size + 1, 3, none⟩ w.heap.size _ (by show w.heap.size ≠ w.heap.size + 1; omega)).trans HIR.out, ?_⟩, ?_⟩
      · have h := heap_setCell_same W.drew (w.heap.size + 1) 3 _ _ (.int .i64 (m + (se - sb))) HIS.out
        rw [show shC (mins (pre ++ [⟨sb, se, 3⟩])) = (shC (mins pre)).setIfInBounds 3 (.int .i64 (m + (se - sb))) by simp [shC, HSN.out, HM.out]]
        exact h
      · exact (below_drew1 HB.out).setCell (p := ⟨w.heap.size + 1, 3, none⟩) (by show w.heap.size ≤ w.heap.size + 1; omega) _
    · obtain ⟨m0, m1⟩ : 0 ≤ mins pre 4 ∧ mins pre 4 ≤ 1440 := hm 4
      have q0 : W.cell? ⟨w.heap.size + 1, 4, none⟩ = some (.int .i64 (mins pre 4)) := cell_of_row _ _ 4 _ _ _ is
      have qf : W.frozen? ⟨w.heap.size + 1, 4, none⟩ = false := frozen_of_row _ _ 4 _ _ is
      obtain ⟨m, hm2⟩ : ∃ m, mins pre 4 = m := ⟨_, rfl⟩
      rw [hm2] at q0 m0 m1
      have HM := Lib.hid hm2
      clear hm hm2 is
      gi_upto_region 6 with (fail)
      refine regionIn_tail (wide_round _ _ _) 11 hmx (by kernel_rfl) rfl ?_
      simp only [List.take_succ_cons, List.take_zero, List.drop_succ_cons, List.drop_zero]
      repeat still_step
      refine wpStill_nil ?_
      gi_wp2
      refine ⟨⟨by simp, fun k hk hs => (heap_setCell_other _ ⟨w.heap.size + 1, 4, none⟩ k _ hs)⟩, (KT.of (below_drew _)).setCell _ (by exact HIS.out) (by decide), ⟨(heap_setCell_other _ ⟨w.heap.size + 1, 4, none⟩ w.heap.size _ (by show w.heap.size ≠ w.heap.size + 1; omega)).trans HIR.out, ?_⟩, ?_⟩
      · have h := heap_setCell_same W.drew (w.heap.size + 1) 4 _ _ (.int .i64 (m + (se - sb))) HIS.out
        rw [show shC (mins (pre ++ [⟨sb, se, 4⟩])) = (shC (mins pre)).setIfInBounds 4 (.int .i64 (m + (se - sb))) by simp [shC, HSN.out, HM.out]]
        exact h
      · exact (below_drew1 HB.out).setCell (p := ⟨w.heap.size + 1, 4, none⟩) (by show w.heap.size ≤ w.heap.size + 1; omega) _
    · obtain ⟨m0, m1⟩ : 0 ≤ mins pre 5 ∧ mins pre 5 ≤ 1440 := hm 5
      have q0 : W.cell? ⟨w.heap.size + 1, 5, none⟩ = some (.int .i64 (mins pre 5)) := cell_of_row _ _ 5 _ _ _ is
      have qf : W.frozen? ⟨w.heap.size + 1, 5, none⟩ = false := frozen_of_row _ _ 5 _ _ is
      obtain ⟨m, hm2⟩ : ∃ m, mins pre 5 = m := ⟨_, rfl⟩
      rw [hm2] at q0 m0 m1
      have HM := Lib.hid hm2
      clear hm hm2 is
      gi_upto_region 6 with (fail)
      refine regionIn_tail (wide_round _ _ _) 11 hmx (by kernel_rfl) rfl ?_
      simp only [List.take_succ_cons, List.take_zero, List.drop_succ_cons, List.drop_zero]
      repeat still_step
      refine wpStill_nil ?_
      gi_wp2
      refine ⟨⟨by simp, fun k hk hs => (heap_setCell_other _ ⟨w.heap.size + 1, 5, none⟩ k _ hs)⟩, (KT.of (below_drew _)).setCell _ (by exact HIS.out) (by decide), ⟨(heap_setCell_other _ ⟨w.heap.size + 1, 5, none⟩ w.heap.size _ (by show w.heap.size ≠ w.heap.size + 1; omega)).trans HIR.out, ?_⟩, ?_⟩
      · have h := heap_setCell_same W.drew (w.heap.size + 1) 5 _ _ (.int .i64 (m + (se - sb))) HIS.out
        rw [show shC (mins (pre ++ [⟨sb, se, 5⟩])) = (shC (mins pre)).setIfInBounds 5 (.int .i64 (m + (se - sb))) by simp [shC, HSN.out, HM.out]]
        exact h
      · exact (below_drew1 HB.out).setCell (p := ⟨w.heap.size + 1, 5, none⟩) (by show w.heap.size ≤ w.heap.size + 1; omega) _
    · obtain ⟨m0, m1⟩ : 0 ≤ mins pre 6 ∧ mins pre 6 ≤ 1440 := hm 6
      have q0 : W.cell? ⟨w.heap.size + 1, 6, none⟩ = some (.int .i64 (mins pre 6)) := cell_of_row _ _ 6 _ _ _ is
      have qf : W.frozen? ⟨w.heap.size + 1, 6, none⟩ = false := frozen_of_row _ _ 6 _ _ is
      obtain ⟨m, hm2⟩ : ∃ m, mins pre 6 = m := ⟨_, rfl⟩
      rw [hm2] at q0 m0 m1
      have HM := Lib.hid hm2
      clear hm hm2 is
      gi_upto_region 6 with (fail)
      refine regionIn_tail (wide_round _ _ _) 11 hmx (by kernel_rfl) rfl ?_
      simp only [List.take_succ_cons, List.take_zero, List.drop_succ_cons, List.drop_zero]
      repeat still_step
      refine wpStill_nil ?_
      gi_wp2
      refine ⟨⟨by simp, fun k hk hs => (heap_setCell_other _ ⟨w.heap.size + 1, 6, none⟩ k _ hs)⟩, (KT.of (below_drew _)).setCell _ (by exact HIS.out) (by decide), ⟨(heap_setCell_other _ ⟨w.heap.size + 1, 6, none⟩ w.heap.size _ (by show w.heap.size ≠ w.heap.size + 1; omega)).trans HIR.out, ?_⟩, ?_⟩
      · have h := heap_setCell_same W.drew (w.heap.size + 1) 6 _ _ (.int .i64 (m + (se - sb))) HIS.out
        rw [show shC (mins (pre ++ [⟨sb, se, 6⟩])) = (shC (mins pre)).setIfInBounds 6 (.int .i64 (m + (se - sb))) by simp [shC, HSN.out, HM.out]]
        exact h
      · exact (below_drew1 HB.out).setCell (p := ⟨w.heap.size + 1, 6, none⟩) (by show w.heap.size ≤ w.heap.size + 1; omega) _
    · obtain ⟨m0, m1⟩ : 0 ≤ mins pre 7 ∧ mins pre 7 ≤ 1440 := hm 7
      have q0 : W.cell? ⟨w.heap.size + 1, 7, none⟩ = some (.int .i64 (mins pre 7)) := cell_of_row _ _ 7 _ _ _ is
      have qf : W.frozen? ⟨w.heap.size + 1, 7, none⟩ = false := frozen_of_row _ _ 7 _ _ is
      obtain ⟨m, hm2⟩ : ∃ m, mins pre 7 = m := ⟨_, rfl⟩
      rw [hm2] at q0 m0 m1
      have HM := Lib.hid hm2
      clear hm hm2 is
      gi_upto_region 6 with (fail)
      refine regionIn_tail (wide_round _ _ _) 11 hmx (by kernel_rfl) rfl ?_
      simp only [List.take_succ_cons, List.take_zero, List.drop_succ_cons, List.drop_zero]
      repeat still_step
      refine wpStill_nil ?_
      gi_wp2
      refine ⟨⟨by simp, fun k hk hs => (heap_setCell_other _ ⟨w.heap.size + 1, 7, none⟩ k _ hs)⟩, (KT.of (below_drew _)).setCell _ (by exact HIS.out) (by decide), ⟨(heap_setCell_other _ ⟨w.heap.size + 1, 7, none⟩ w.heap.size _ (by show w.heap.size ≠ w.heap.size + 1; omega)).trans HIR.out, ?_⟩, ?_⟩
      · have h := heap_setCell_same W.drew (w.heap.size + 1) 7 _ _ (.int .i64 (m + (se - sb))) HIS.out
        rw [show shC (mins (pre ++ [⟨sb, se, 7⟩])) = (shC (mins pre)).setIfInBounds 7 (.int .i64 (m + (se - sb))) by simp [shC, HSN.out, HM.out]]
        exact h
      · exact (below_drew1 HB.out).setCell (p := ⟨w.heap.size + 1, 7, none⟩) (by show w.heap.size ≤ w.heap.size + 1; omega) _
  case done =>
    rintro D W hD ⟨⟨ir, is⟩, hB⟩ hK
    obtain ⟨r0, r1, r2, r3, r4, r5, r6, r7⟩ := cells8 ir
    obtain ⟨f0, f1, f2, f3, f4, f5, f6, f7⟩ := frozen8 ir
    obtain ⟨s0, s1, s2, s3, s4, s5, s6, s7⟩ := cells8 is
    have HR := Lib.hid ir
    have HB := Lib.hid hB
    have HK := Lib.hid hK
    have HXS := Lib.hid xw.size
    clear ir is hB hK xr xs xb xw hA2
    gi_wp2
    have hset := set8 HR.out rfl (.int .i64 (mins (strs L len) 0)) (.int .i64 (mins (strs L len) 1)) (.int .i64 (mins (strs L len) 2)) (.int .i64 (mins (strs L len) 3)) (.int .i64 (mins (strs L len) 4)) (.int .i64 (mins (strs L len) 5)) (.int .i64 (mins (strs L len) 6)) (.int .i64 (mins (strs L len) 7))
    have hk2 := (set8_other (Z := W) (B := w.heap.size) (C := D) (by omega) (.int .i64 (mins (strs L len) 0)) (.int .i64 (mins (strs L len) 1)) (.int .i64 (mins (strs L len) 2)) (.int .i64 (mins (strs L len) 3)) (.int .i64 (mins (strs L len) 4)) (.int .i64 (mins (strs L len) 5)) (.int .i64 (mins (strs L len) 6)) (.int .i64 (mins (strs L len) 7))).trans HK.out
    refine ⟨by simp, .inl ⟨_, _, rfl, run_takeDeferred hk2, ?_⟩⟩
    refine ⟨_, results_pshare (cs := shC (mins (strs L len))) rfl ((World.putObj_heap_other (by omega)).trans hset) rfl, rfl, ?_⟩
    exact (set8_below HB.out (by omega) _ _ _ _ _ _ _ _).trans (belowK_b (w := w) (Nat.le_refl _) _ D _ _ (by omega) hk2 rfl rfl)
  case stop =>
    rintro D pre W hD hpre hf hK
    exact hf.elim
end Go.Proofs.YtmbimnphdhmapaaDoor
