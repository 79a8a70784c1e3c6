/- The contract of Parse. -/
import Derived.Test.YtmbimnphdhmapaaDoorDIter
import Derived.Test.YtmbimnphdhmapaaDoorDOwn
set_option linter.unusedVariables false
set_option linter.unusedSimpArgs false
namespace Go.Proofs.YtmbimnphdhmapaaDoor
open Go.RowKit Go.Shelf
attribute [local go_sem] Oper.semAt_some
/-- A list of switches is a plan. -/
def PlanL (xs : List Sw) : Prop := PlanIs (fun i => xs.getD i ⟨0, 0⟩) xs.length
def ParseE (B : Nat) (s : List UInt8) (e : Ending) (w' : World) : Prop := (∃ v xs, e = .returned (.tuple #[v, .int .i64 0]) ∧ OwnW B w' v xs ∧ PlanL xs ∧ s = textL xs) ∨ (e = .returned (.tuple #[.slice none 0 0, .int .i64 90]) ∧ ∀ xs, PlanL xs → s ≠ textL xs)
theorem plan_min {L : Nat → Sw} {n : Nat} (h : PlanIs L n) : ∀ i, i < n → 0 ≤ (L i).m
  | 0, _ => by rw [h.2.2.1]; exact Int.le_refl _
  | i + 1, hi => by
    have h1 := plan_min h i (by omega)
    have h2 := (h.2.2.2 (i + 1) hi).2.2.2 (by omega)
    rw [Nat.add_sub_cancel] at h2
    omega
theorem plan_64 {xs : List Sw} (h : PlanL xs) : ∀ x ∈ xs, Sw64 x := by
  intro x hx
  obtain ⟨i, hi, rfl⟩ := List.getElem_of_mem hx
  have h1 := h.2.2.2 i hi
  have h0 := plan_min h i hi
  have e : xs.getD i ⟨0, 0⟩ = xs[i] := by simp [List.getD, hi]
  unfold SwOk at h1
  simp only [e] at h1 h0
  unfold Sw64 I64
  omega
theorem plan_ne {xs : List Sw} (h : PlanL xs) : xs ≠ [] := by
  intro e
  have := h.1
  rw [e] at this
  simp at this
/-- What has been read of the pieces so far. -/
def Read (pre : List (List UInt8)) (xs : List Sw) : Prop := pre = xs.map swL ∧ (∀ x ∈ xs, Sw64 x) ∧ xs.length ≤ 48
/-- Why nothing can be read. -/
def Bad (pre : List (List UInt8)) : Prop := (∃ q p, pre = q ++ [p] ∧ ∀ y, Sw64 y → p ≠ swL y) ∨ 48 < pre.length
theorem bad_no {s : List UInt8} {pre : List (List UInt8)} (hp : pre <+: pieces s) (hb : Bad pre) : ∀ xs, PlanL xs → s ≠ textL xs := by
  intro xs hx e
  obtain ⟨t, ht⟩ := hp
  rw [e, pieces_text (plan_ne hx)] at ht
  rcases hb with ⟨q, p, rfl, hn⟩ | hl
  · have hm : p ∈ xs.map swL := by rw [← ht]; simp
    obtain ⟨y, hy, rfl⟩ := List.mem_map.1 hm
    exact hn y (plan_64 hx y hy) rfl
  · have h1 := congrArg List.length ht
    have h2 := hx.2.1
    simp at h1
    omega
theorem read_snoc {pre : List (List UInt8)} {xs : List Sw} {x : List UInt8} {y : Sw} (h : Read pre xs) (hy : Sw64 y ∧ x = swL y) (hl : xs.length ≠ 48) : Read (pre ++ [x]) (xs ++ [y]) := by
  obtain ⟨h1, h2, h3⟩ := h
  refine ⟨by rw [h1, hy.2]; simp, fun z hz => ?_, by simp; omega⟩
  rcases List.mem_append.1 hz with q | q
  · exact h2 z q
  · rw [List.mem_singleton.1 q]; exact hy.1
theorem read_no {s : List UInt8} {xs : List Sw} (hr : Read (pieces s) xs) (hn : ¬ PlanL xs) : ∀ ys, PlanL ys → s ≠ textL ys := by
  intro ys hy e
  have h1 := hr.1
  rw [e, pieces_text (plan_ne hy)] at h1
  exact hn (map_swL_inj (plan_64 hy) hr.2.1 h1 ▸ hy)
theorem read_yes {s : List UInt8} {xs : List Sw} (hr : Read (pieces s) xs) : s = textL xs := by
  unfold textL
  rw [← hr.1, join_pieces]
theorem pieces_len : ∀ (l : List UInt8), ∀ p ∈ pieces l, p.length ≤ l.length
  | [], p, hp => by simp [pieces] at hp; simp [hp]
  | c :: r, p, hp => by
    unfold pieces at hp
    split at hp
    · rcases List.mem_cons.1 hp with rfl | hp
      · simp
      · have := pieces_len r p hp
        simp; omega
    · split at hp
      · rename_i q qs he
        rcases List.mem_cons.1 hp with rfl | hp
        · have := pieces_len r q (by rw [he]; simp)
          simp; omega
        · have := pieces_len r p (by rw [he]; exact List.mem_cons_of_mem _ hp)
          simp; omega
      · rename_i he
        exact absurd he (pieces_ne r)
theorem results_pa {v : Value} {x : Int} {b c : Nat} {tmps : Array Value} {w : World} (h2 : tmps.getD 2 undef = .pointer (some ⟨b, 0, none⟩)) (h3 : tmps.getD 3 undef = .pointer (some ⟨c, 0, none⟩))
    (hb : w.heap[b]? = some (.cells #[v] 22 (0, 0))) (hc : w.heap[c]? = some (.cells #[.int .i64 x] 23 (0, 0))) : (results Tryd.f9 tmps).run Tryd.prog w = .ok (.tuple #[v, .int .i64 x]) w := by
  have c0 : w.cell? ⟨b, 0, none⟩ = some v := cell_of_row _ b 0 _ _ _ hb
  have c1 : w.cell? ⟨c, 0, none⟩ = some (.int .i64 x) := cell_of_row _ c 0 _ _ _ hc
  simp only [Array.getD_eq_getD_getElem?] at h2 h3
  simp [results, Tryd.results9, go_sem, h2, h3, c0, c1]
set_option maxRecDepth 100000 in
set_option maxHeartbeats 4000000 in
theorem parse_any (s : List UInt8) (hs : s.length ≤ 1000000) (w : World) (hT : TabsD w) : Calls Tryd.prog 9 #[strL s] w fun e w' => ParseE w.heap.size s e w' ∧ Below w.heap.size w w' := by
  have HT := Lib.hid hT
  clear hT
  refine (callsIn_wide (n := 6)).1 ?_
  refine callsIn_of_wp_marks Tryd.func9 rfl trivial ?_ rfl
  simp only [Tryd.ntmps9, List.size_toArray, List.length_cons, List.length_nil, Nat.reduceAdd, Nat.reduceSub, Array.replicate_succ, Array.replicate_zero, List.push_toArray, List.append_toArray, List.nil_append, List.cons_append]
  gi_wp2_with fail
  have hb3 := (((Below.refl _ w).alloc (Nat.le_refl _) (.cells #[.slice none 0 0] 22)).alloc (by simp) (.cells #[.int .i64 0] 23)).alloc (by simp; omega) (.cells #[.slice none 0 0] 22)
  have y2 := heap_old (heap_old (heap_alloc_new w (.cells #[.slice none 0 0] 22)) (.cells #[.int .i64 0] 23)) (.cells #[.slice none 0 0] 22)
  have y3 := heap_old (heap_alloc_new (w.alloc (.cells #[.slice none 0 0] 22)) (.cells #[.int .i64 0] 23)) (.cells #[.slice none 0 0] 22)
  have y4 := heap_alloc_new ((w.alloc (.cells #[.slice none 0 0] 22)).alloc (.cells #[.int .i64 0] 23)) (.cells #[.slice none 0 0] 22)
  have ysz : (((w.alloc (.cells #[.slice none 0 0] 22)).alloc (.cells #[.int .i64 0] 23)).alloc (.cells #[.slice none 0 0] 22)).heap.size = w.heap.size + 3 := by simp [World.size_alloc]
  simp only [World.size_alloc] at y3 y4
  obtain ⟨W3, hW3⟩ : ∃ X, ((w.alloc (.cells #[.slice none 0 0] 22)).alloc (.cells #[.int .i64 0] 23)).alloc (.cells #[.slice none 0 0] 22) = X := ⟨_, rfl⟩
  rw [hW3] at hb3 y2 y3 y4 ysz ⊢
  clear hW3
  have z2 := heap_old (heap_old (heap_old y2 (.cells #[strL s] 9)) (.cells #[.string ⟨#[32]⟩] 9)) (.cells #[.int .i64 0] 3)
  have z3 := heap_old (heap_old (heap_old y3 (.cells #[strL s] 9)) (.cells #[.string ⟨#[32]⟩] 9)) (.cells #[.int .i64 0] 3)
  have z4 := heap_old (heap_old (heap_old y4 (.cells #[strL s] 9)) (.cells #[.string ⟨#[32]⟩] 9)) (.cells #[.int .i64 0] 3)
  have x0 := heap_old (heap_old (heap_alloc_new W3 (.cells #[strL s] 9)) (.cells #[.string ⟨#[32]⟩] 9)) (.cells #[.int .i64 0] 3)
  have x1 := heap_old (heap_alloc_new (W3.alloc (.cells #[strL s] 9)) (.cells #[.string ⟨#[32]⟩] 9)) (.cells #[.int .i64 0] 3)
  have x2 := heap_alloc_new ((W3.alloc (.cells #[strL s] 9)).alloc (.cells #[.string ⟨#[32]⟩] 9)) (.cells #[.int .i64 0] 3)
  have xb : Below w.heap.size w (((W3.alloc (.cells #[strL s] 9)).alloc (.cells #[.string ⟨#[32]⟩] 9)).alloc (.cells #[.int .i64 0] 3)) := ((hb3.alloc (by omega) _).alloc (by simp; omega) _).alloc (by simp; omega) _
  have xsz : (((W3.alloc (.cells #[strL s] 9)).alloc (.cells #[.string ⟨#[32]⟩] 9)).alloc (.cells #[.int .i64 0] 3)).heap.size = W3.heap.size + 3 := by simp [World.size_alloc]
  simp only [World.size_alloc] at x1 x2
  obtain ⟨X, hX⟩ : ∃ X, ((W3.alloc (.cells #[strL s] 9)).alloc (.cells #[.string ⟨#[32]⟩] 9)).alloc (.cells #[.int .i64 0] 3) = X := ⟨_, rfl⟩
  rw [hX] at z2 z3 z4 x0 x1 x2 xb xsz
  refine ⟨trivial, ?_⟩
  refine (SplitSeq_in _ (by omega) s W3).mono ?_
  rintro e w' ⟨rfl, hw⟩
  obtain rfl : X = w' := hX.symm.trans hw.symm
  clear hX hw hb3 y2 y3 y4
  rw [ysz] at x0 x1 x2 xsz ⊢
  have HXS := Lib.hid xsz
  clear xsz ysz
  gi_wp2_with fail
  refine wpIn_rangeFunc_box (gf := 47) (lb := #[.pointer (some ⟨w.heap.size + 3 + 1, 0, none⟩), .pointer (some ⟨w.heap.size + 3, 0, none⟩), .pointer (some ⟨w.heap.size + 3 + 2, 0, none⟩)]) rfl (enters_of Tryd.func47 (by kernel_rfl) rfl)
    (pieces s) encP (w.heap.size + 3) (by rw [HXS.out]; omega) (fun j => j = w.heap.size ∨ j = w.heap.size + 1 ∨ j = w.heap.size + 2)
    (split_seq (6 - 1) (by omega) (w.heap.size + 3) (w.heap.size + 3 + 1) (w.heap.size + 3 + 2) ⟨by omega, by omega⟩ s hs _ (fun j hj => ⟨by omega, by omega, by omega⟩) X x0 x1 x2) (fun _ => rfl) (fun j hj => by rw [HXS.out]; omega)
    (fun pre W => ((∃ v xs, W.heap[w.heap.size + 2]? = some (.cells #[v] 22 (0, 0)) ∧ OwnW (X.heap.size + 2) W v xs ∧ Read pre xs) ∧ W.heap[w.heap.size]? = some (.cells #[.slice none 0 0] 22 (0, 0)) ∧ W.heap[w.heap.size + 1]? = some (.cells #[.int .i64 0] 23 (0, 0))) ∧ Below w.heap.size w W)
    (fun pre W => (Bad pre ∧ W.heap[w.heap.size]? = some (.cells #[.slice none 0 0] 22 (0, 0)) ∧ W.heap[w.heap.size + 1]? = some (.cells #[.int .i64 90] 23 (0, 0))) ∧ Below w.heap.size w W)
    (fun pre => SteadyG.and (SteadyG.and (fun X' Y row hs hg hr => let ⟨v, xs, e1, e2, e3⟩ := hs; ⟨v, xs, (hg.block _ (Array.getElem?_eq_some_iff.1 e1).1 (fun e => by have := hr _ e.symm; have := HXS.out; omega)).trans e1, e2.kept (fun k hk hlt => hg.block k hlt (fun e => by have := hr k e.symm; have := HXS.out; omega)), e3⟩)
      (SteadyG.and (steadyG_block _ _ _ (fun e => by have := HXS.out; omega)) (steadyG_block _ _ _ (fun e => by have := HXS.out; omega)))) (steadyG_below _ _ _ (fun r e => by have := HXS.out; omega) (Nat.le_refl _)))
    (fun pre => SteadyG.and (SteadyG.and (steadyG_pure _ _) (SteadyG.and (steadyG_block _ _ _ (fun e => by have := HXS.out; omega)) (steadyG_block _ _ _ (fun e => by have := HXS.out; omega)))) (steadyG_below _ _ _ (fun r e => by have := HXS.out; omega) (Nat.le_refl _)))
    ⟨⟨⟨_, [], z4, OwnW.nil _ _, rfl, (fun x hx => by cases hx), by simp⟩, z2, z3⟩, xb⟩
    (fun pre x a₁ W => a₁ = { tmps := #[strL s, undef, .pointer (some ⟨w.heap.size, 0, none⟩), .pointer (some ⟨w.heap.size + 1, 0, none⟩), .pointer (some ⟨w.heap.size + 1 + 1, 0, none⟩), strL x, undef, undef, strL s, .func (.func 47) #[] #[.pointer (some ⟨w.heap.size + 3 + 1, 0, none⟩), .pointer (some ⟨w.heap.size + 3, 0, none⟩), .pointer (some ⟨w.heap.size + 3 + 2, 0, none⟩)], strL x, undef, undef, undef, undef, undef, undef, undef, undef, undef, undef, undef, undef, undef, undef, undef, undef, undef, undef, undef, undef], defers := [] })
    (fun pre x a₁ X' Y row hs hg hr => hs)
    ?assign ?body ?done ?stop
  case assign =>
    intro l pre x W K hsz hpre hI hK
    unfold encP
    gi_wp2
    exact hK _ _ (Only.refl _ _ _) hI rfl
  case body =>
    rintro l pre x a₁ W hsz hpre ⟨⟨⟨v, xs, hv, hO, hR⟩, ht2, ht3⟩, hB⟩ rfl
    obtain ⟨va, vc, rfl⟩ := hO.form
    have hxl : x.length ≤ 1000000 := by
      have hm : x ∈ pieces s := hpre.subset (by simp)
      have := pieces_len s x hm
      omega
    have HSW := Lib.hid (switchIn_any ⟨x.toArray⟩ (by show x.toArray.size ≤ _; simpa using hxl) W (HT.out.next hB (Nat.le_refl _)))
    have HV := Lib.hid hv
    have HO := Lib.hid hO
    have HR := Lib.hid hR
    have HT2 := Lib.hid ht2
    have HT3 := Lib.hid ht3
    have HB := Lib.hid hB
    have hxs48 := hR.2.2
    clear hv hO hR ht2 ht3 hB x0 x1 x2 z2 z3 z4 xb hxl
    gi_wp2_with fail
    refine ⟨trivial, ?_⟩
    refine (callsIn_wide.2 HSW.out).mono ?_
    rintro e w2 ⟨⟨⟨m, b⟩, ok, hsw, rfl⟩, hB2⟩
    have HSI := Lib.hid (show SwIs x ⟨m, b⟩ ok from hsw)
    have hlw : w.heap.size + 6 ≤ W.heap.size := by have := HXS.out; omega
    have v2 := (hB2.block (w.heap.size + 2) (by omega)).trans HV.out
    have t2 := (hB2.block w.heap.size (by omega)).trans HT2.out
    have t3 := (hB2.block (w.heap.size + 1) (by omega)).trans HT3.out
    have hs2 := hB2.size
    have HO2 := Lib.hid (HO.out.below hB2 (Nat.le_refl _))
    have HBW := Lib.hid hB2
    have HB2 := Lib.hid (HB.out.trans (hB2.mono (by omega)))
    have v3 := heap_old v2 (.cells #[.int .i64 m, .int .i64 b] 39)
    have t23 := heap_old t2 (.cells #[.int .i64 m, .int .i64 b] 39)
    have t33 := heap_old t3 (.cells #[.int .i64 m, .int .i64 b] 39)
    have n3 := heap_alloc_new w2 (.cells #[.int .i64 m, .int .i64 b] 39)
    have B3 := Lib.hid (HB2.out.alloc HB2.out.size (.cells #[.int .i64 m, .int .i64 b] 39))
    have hsz2 : X.heap.size + 2 ≤ w2.heap.size := by omega
    have HO3 := Lib.hid (((Only.of HBW.out (by omega)).alloc hsz2 (.cells #[.int .i64 m, .int .i64 b] 39) : Only (X.heap.size + 2) (fun j => j = w.heap.size ∨ j = w.heap.size + 1 ∨ j = w.heap.size + 2) W _))
    have hs3 : (w2.alloc (.cells #[.int .i64 m, .int .i64 b] 39)).heap.size = w2.heap.size + 1 := World.size_alloc _ _
    have HOW3 := Lib.hid (HO2.out.below ((Below.refl _ w2).alloc (Nat.le_refl _) (.cells #[.int .i64 m, .int .i64 b] 39)) (Nat.le_refl _))
    have c0 : (w2.alloc (.cells #[.int .i64 m, .int .i64 b] 39)).cell? ⟨w.heap.size + 1 + 1, 0, none⟩ = some (.slice va xs.length vc) := cell_of_row _ _ 0 _ _ _ v3
    have c2 : (w2.alloc (.cells #[.int .i64 m, .int .i64 b] 39)).cell? ⟨w.heap.size, 0, none⟩ = some (.slice none 0 0) := cell_of_row _ _ 0 _ _ _ t23
    have c3 : (w2.alloc (.cells #[.int .i64 m, .int .i64 b] 39)).cell? ⟨w.heap.size + 1, 0, none⟩ = some (.int .i64 0) := cell_of_row _ _ 0 _ _ _ t33
    have f2 : (w2.alloc (.cells #[.int .i64 m, .int .i64 b] 39)).frozen? ⟨w.heap.size, 0, none⟩ = false := frozen_of_row _ _ 0 _ _ t23
    have f3 : (w2.alloc (.cells #[.int .i64 m, .int .i64 b] 39)).frozen? ⟨w.heap.size + 1, 0, none⟩ = false := frozen_of_row _ _ 0 _ _ t33
    have f0 : (w2.alloc (.cells #[.int .i64 m, .int .i64 b] 39)).frozen? ⟨w.heap.size + 1 + 1, 0, none⟩ = false := frozen_of_row _ _ 0 _ _ v3
    have n0 : (w2.alloc (.cells #[.int .i64 m, .int .i64 b] 39)).cell? ⟨w2.heap.size, 0, none⟩ = some (.int .i64 m) := cell_of_row _ _ 0 _ _ _ n3
    have n1 : (w2.alloc (.cells #[.int .i64 m, .int .i64 b] 39)).cell? ⟨w2.heap.size, 1, none⟩ = some (.int .i64 b) := cell_of_row _ _ 1 _ _ _ n3
    have V3 := Lib.hid v3
    have T2 := Lib.hid t23
    have T3 := Lib.hid t33
    have HS3 := Lib.hid hs3
    have HZ2 := Lib.hid hsz2
    clear hsw hB2 v2 t2 t3 v3 t23 t33 n3 hs3 hsz2
    have HRET : Hid (Bad (pre ++ [x]) → boxPost (X.heap.size + 2) (fun j => j = w.heap.size ∨ j = w.heap.size + 1 ∨ j = w.heap.size + 2) (fun _ => True) (fun W => (Bad (pre ++ [x]) ∧ W.heap[w.heap.size]? = some (.cells #[.slice none 0 0] 22 (0, 0)) ∧ W.heap[w.heap.size + 1]? = some (.cells #[.int .i64 90] 23 (0, 0))) ∧ Below w.heap.size w W) W .ret { tmps := #[], defers := [] }
        (((w2.alloc (.cells #[.int .i64 m, .int .i64 b] 39)).setCell ⟨w.heap.size, 0, none⟩ (.slice none 0 0)).setCell ⟨w.heap.size + 1, 0, none⟩ (.int .i64 90))) := Lib.hid (fun hbad =>
      ⟨(HO3.out.setCell ⟨w.heap.size, 0, none⟩ (.inl rfl) _).setCell ⟨w.heap.size + 1, 0, none⟩ (.inr (.inl rfl)) _,
        ⟨hbad, (heap_setCell_other _ ⟨w.heap.size + 1, 0, none⟩ w.heap.size _ (by show w.heap.size ≠ w.heap.size + 1; omega)).trans (heap_setCell_same _ w.heap.size 0 _ _ _ T2.out),
          heap_setCell_same _ (w.heap.size + 1) 0 _ _ _ ((heap_setCell_other _ ⟨w.heap.size, 0, none⟩ (w.heap.size + 1) _ (by show w.heap.size + 1 ≠ w.heap.size; omega)).trans T3.out)⟩,
        (B3.out.setCell (p := ⟨w.heap.size, 0, none⟩) (Nat.le_refl _) _).setCell (p := ⟨w.heap.size + 1, 0, none⟩) (Nat.le_succ _) _⟩)
    cases ok
    · gi_wp2_with fail
      exact HRET.out (.inl ⟨pre, x, rfl, HSI.out.2 rfl⟩)
    · by_cases h48 : xs.length = 48
      · have g1 : ((xs.length : Int) == 48) = true := by simp [h48]
        have HBD := Lib.hid (show Bad (pre ++ [x]) from .inr (by rw [HR.out.1]; simp; omega))
        gi_wp2_with fail
        exact HRET.out HBD.out
      · have g1 : ((xs.length : Int) == 48) = false := by simp; omega
        have r3 := heap_alloc_new (w2.alloc (.cells #[.int .i64 m, .int .i64 b] 39)) (.cells #[.int .i64 m, .int .i64 b] 39)
        rw [HS3.out] at r3
        have R0 : Hid (((w2.alloc (.cells #[.int .i64 m, .int .i64 b] 39)).alloc (.cells #[.int .i64 m, .int .i64 b] 39)).cell? ⟨w2.heap.size + 1, 0, none⟩ = some (.int .i64 m)) := Lib.hid (cell_of_row _ _ 0 _ _ _ r3)
        have R1 : Hid (((w2.alloc (.cells #[.int .i64 m, .int .i64 b] 39)).alloc (.cells #[.int .i64 m, .int .i64 b] 39)).cell? ⟨w2.heap.size + 1, 1, none⟩ = some (.int .i64 b)) := Lib.hid (cell_of_row _ _ 1 _ _ _ r3)
        have HOW4 := Lib.hid (HOW3.out.below ((Below.refl _ (w2.alloc (.cells #[.int .i64 m, .int .i64 b] 39))).alloc (Nat.le_refl _) (.cells #[.int .i64 m, .int .i64 b] 39)) (Nat.le_refl _))
        have HS4 : Hid (((w2.alloc (.cells #[.int .i64 m, .int .i64 b] 39)).alloc (.cells #[.int .i64 m, .int .i64 b] 39)).heap.size = w2.heap.size + 2) := Lib.hid (by rw [World.size_alloc, HS3.out])
        have V4 := Lib.hid (heap_old V3.out (.cells #[.int .i64 m, .int .i64 b] 39))
        have T24 := Lib.hid (heap_old T2.out (.cells #[.int .i64 m, .int .i64 b] 39))
        have T34 := Lib.hid (heap_old T3.out (.cells #[.int .i64 m, .int .i64 b] 39))
        have HO4 := Lib.hid (HO3.out.alloc (by rw [HS3.out]; have := HZ2.out; omega) (.cells #[.int .i64 m, .int .i64 b] 39))
        have B4 := Lib.hid (B3.out.alloc B3.out.size (.cells #[.int .i64 m, .int .i64 b] 39))
        have HRD := Lib.hid (read_snoc HR.out (HSI.out.1 rfl) h48)
        obtain ⟨PL, hPL⟩ : ∃ PL, PL = xs.length := ⟨_, rfl⟩
        have HPL := Lib.hid hPL
        rw [← hPL] at c0 g1 hxs48
        clear r3 hPL h48
        gi_wp2_with (first
          | (gi_at_builtin; refine wpListIn_bappW rfl (.tmp 23) (.tmp 25) rfl (X.heap.size + 2) _ xs rfl (by rw [HPL.out]; exact HOW4.out) (w2.heap.size + 1) ⟨m, b⟩ rfl R0.out R1.out (by rw [← HPL.out]; omega) (by rw [HS4.out]; have := HZ2.out; omega) ?_; intro a2 c5 W5 hO5 hG5
             have hv5 := (hG5.block (w.heap.size + 2) (by rw [HS4.out]; omega) (fun e => by have := (HOW4.out.row (w.heap.size + 2) (by rw [← HPL.out]; exact e.symm)).1; have := HXS.out; omega)).trans V4.out
             have z0 : W5.cell? ⟨w.heap.size + 1 + 1, 0, none⟩ = _ := cell_of_row _ _ 0 _ _ _ hv5
             have zf : W5.frozen? ⟨w.heap.size + 1 + 1, 0, none⟩ = false := frozen_of_row W5 _ 0 _ _ hv5))
        have hrow : ∀ r, (Value.slice va PL vc).ownBlock = some r → X.heap.size + 2 ≤ r := fun r e => (HOW4.out.row r (by rw [← HPL.out]; exact e)).1
        have hX := HXS.out
        have hS4 := HS4.out
        have t25 := (hG5.block w.heap.size (by omega) (fun e => by have := hrow _ e.symm; omega)).trans T24.out
        have t35 := (hG5.block (w.heap.size + 1) (by omega) (fun e => by have := hrow _ e.symm; omega)).trans T34.out
        have hO6 := HO4.out.trans (Only.grown hG5 (by rw [hS4]; have := HZ2.out; omega) (fun r e => .inl (hrow r e)))
        have hB6 := B4.out.trans ((Below.refl w.heap.size _).grown hG5 (by omega) (fun r e => by have := hrow r e; omega))
        simp only [List.length_append, List.length_cons, List.length_nil, Nat.zero_add] at hO5
        refine ⟨hO6.setCell ⟨w.heap.size + 2, 0, none⟩ (.inr (.inr rfl)) _, ⟨⟨_, _, heap_setCell_same _ (w.heap.size + 2) 0 _ _ _ hv5, hO5.kept (fun k hk _ => heap_setCell_other _ ⟨w.heap.size + 2, 0, none⟩ k _ (by show k ≠ w.heap.size + 2; omega)), HRD.out⟩, ?_, ?_⟩, hB6.setCell (p := ⟨w.heap.size + 2, 0, none⟩) (by show w.heap.size ≤ w.heap.size + 2; omega) _⟩
        · exact (heap_setCell_other _ ⟨w.heap.size + 2, 0, none⟩ w.heap.size _ (by show w.heap.size ≠ w.heap.size + 2; omega)).trans t25
        · exact (heap_setCell_other _ ⟨w.heap.size + 2, 0, none⟩ (w.heap.size + 1) _ (by show w.heap.size + 1 ≠ w.heap.size + 2; omega)).trans t35
  case done =>
    rintro D W hD ⟨⟨⟨v, xs, hv, hO, hR⟩, ht2, ht3⟩, hB⟩ hK
    obtain ⟨va, vc, rfl⟩ := hO.form
    have hxs48 := hR.2.2
    have hck := checkPlan_any va xs.length vc _ W hO.sws (by unfold maxLen; omega)
    have HCK := Lib.hid hck
    have c0 : W.cell? ⟨w.heap.size + 1 + 1, 0, none⟩ = some (.slice va xs.length vc) := cell_of_row _ _ 0 _ _ _ hv
    have HV := Lib.hid hv
    have HO := Lib.hid hO
    have HR := Lib.hid hR
    have HT2 := Lib.hid ht2
    have HT3 := Lib.hid ht3
    have HB := Lib.hid hB
    have HK := Lib.hid hK
    have hlt : w.heap.size + 2 < W.heap.size := (Array.getElem?_eq_some_iff.1 hv).1
    have hDlt : D < W.heap.size := (Array.getElem?_eq_some_iff.1 hK).1
    clear hv hO hR ht2 ht3 hB hK hck x0 x1 x2 z2 z3 z4 xb
    gi_wp2_with fail
    refine ⟨trivial, ?_⟩
    refine (callsIn_wide.2 HCK.out).mono ?_
    rintro e w2 ⟨rfl, hB2⟩
    have v2 := (hB2.block (w.heap.size + 2) (by omega)).trans HV.out
    have t2 := (hB2.block w.heap.size (by omega)).trans HT2.out
    have t3 := (hB2.block (w.heap.size + 1) (by omega)).trans HT3.out
    have k2 := (hB2.block D hDlt).trans HK.out
    have HO2 := Lib.hid (HO.out.below hB2 (Nat.le_refl _))
    have HB2 := Lib.hid (HB.out.trans (hB2.mono (by omega)))
    have d0 : w2.cell? ⟨w.heap.size + 1 + 1, 0, none⟩ = some (.slice va xs.length vc) := cell_of_row _ _ 0 _ _ _ v2
    have d2 : w2.cell? ⟨w.heap.size, 0, none⟩ = some (.slice none 0 0) := cell_of_row _ _ 0 _ _ _ t2
    have d3 : w2.cell? ⟨w.heap.size + 1, 0, none⟩ = some (.int .i64 0) := cell_of_row _ _ 0 _ _ _ t3
    have f2 : w2.frozen? ⟨w.heap.size, 0, none⟩ = false := frozen_of_row _ _ 0 _ _ t2
    have f3 : w2.frozen? ⟨w.heap.size + 1, 0, none⟩ = false := frozen_of_row _ _ 0 _ _ t3
    have SET := Lib.hid (fun (u : Value) (x : Int) => show ((w2.setCell ⟨w.heap.size, 0, none⟩ u).setCell ⟨w.heap.size + 1, 0, none⟩ (.int .i64 x)).heap[w.heap.size]? = some (.cells #[u] 22 (0, 0)) ∧ ((w2.setCell ⟨w.heap.size, 0, none⟩ u).setCell ⟨w.heap.size + 1, 0, none⟩ (.int .i64 x)).heap[w.heap.size + 1]? = some (.cells #[.int .i64 x] 23 (0, 0)) ∧ ((w2.setCell ⟨w.heap.size, 0, none⟩ u).setCell ⟨w.heap.size + 1, 0, none⟩ (.int .i64 x)).heap[D]? = some (.deferred (some [])) ∧ Below w.heap.size w ((w2.setCell ⟨w.heap.size, 0, none⟩ u).setCell ⟨w.heap.size + 1, 0, none⟩ (.int .i64 x)) from
      ⟨(heap_setCell_other _ ⟨w.heap.size + 1, 0, none⟩ w.heap.size _ (by show w.heap.size ≠ w.heap.size + 1; omega)).trans (heap_setCell_same _ w.heap.size 0 _ _ _ t2),
        heap_setCell_same _ (w.heap.size + 1) 0 _ _ _ ((heap_setCell_other _ ⟨w.heap.size, 0, none⟩ (w.heap.size + 1) _ (by show w.heap.size + 1 ≠ w.heap.size; omega)).trans t3),
        (heap_setCell_other _ ⟨w.heap.size + 1, 0, none⟩ D _ (by show D ≠ w.heap.size + 1; have := HXS.out; omega)).trans ((heap_setCell_other _ ⟨w.heap.size, 0, none⟩ D _ (by show D ≠ w.heap.size; have := HXS.out; omega)).trans k2),
        (HB2.out.setCell (p := ⟨w.heap.size, 0, none⟩) (Nat.le_refl _) _).setCell (p := ⟨w.heap.size + 1, 0, none⟩) (Nat.le_succ _) _⟩)
    have HOW := Lib.hid (fun (x : Int) => show OwnW (X.heap.size + 2) ((w2.setCell ⟨w.heap.size, 0, none⟩ (.slice va xs.length vc)).setCell ⟨w.heap.size + 1, 0, none⟩ (.int .i64 x)) (.slice va xs.length vc) xs from
      HO2.out.kept (fun k hk _ => (heap_setCell_other _ ⟨w.heap.size + 1, 0, none⟩ k _ (by show k ≠ w.heap.size + 1; have := HXS.out; omega)).trans (heap_setCell_other _ ⟨w.heap.size, 0, none⟩ k _ (by show k ≠ w.heap.size; have := HXS.out; omega))))
    have HDW : Hid (w.heap.size ≤ D) := Lib.hid (by have := HXS.out; omega)
    have HXW : Hid (w.heap.size ≤ X.heap.size + 2) := Lib.hid (by have := HXS.out; omega)
    clear hB2 v2 t2 t3 k2 c0 hlt hDlt
    by_cases hp : PlanL xs
    · rw [pErr_yes hp]
      have HP := Lib.hid hp
      clear hp
      gi_wp2_with fail
      obtain ⟨s1, s2, s3, s4⟩ := SET.out (.slice va xs.length vc) 0
      refine ⟨by simp, .inl ⟨_, _, rfl, run_takeDeferred s3, ?_⟩⟩
      refine ⟨_, results_pa rfl rfl ((World.putObj_heap_other (by have := HXS.out; omega)).trans s1) ((World.putObj_heap_other (by have := HXS.out; omega)).trans s2), .inl ⟨_, xs, rfl, ?_, HP.out, read_yes HR.out⟩, s4.trans (belowK_b (w := w) (Nat.le_refl _) _ D _ _ HDW.out s3 rfl rfl)⟩
      exact ownsRow_putObj ((HOW.out 0).base HXW.out) _ s3 rfl
    · rw [pErr_no hp]
      have HP := Lib.hid hp
      clear hp
      gi_wp2_with fail
      obtain ⟨s1, s2, s3, s4⟩ := SET.out (.slice none 0 0) 90
      refine ⟨by simp, .inl ⟨_, _, rfl, run_takeDeferred s3, ?_⟩⟩
      exact ⟨_, results_pa rfl rfl ((World.putObj_heap_other (by have := HXS.out; omega)).trans s1) ((World.putObj_heap_other (by have := HXS.out; omega)).trans s2), .inr ⟨rfl, read_no HR.out HP.out⟩, s4.trans (belowK_b (w := w) (Nat.le_refl _) _ D _ _ HDW.out s3 rfl rfl)⟩
  case stop =>
    rintro D pre W hD hpre ⟨⟨hbad, ht2, ht3⟩, hB⟩ hK
    have HBAD := Lib.hid (bad_no hpre hbad)
    have HT2 := Lib.hid ht2
    have HT3 := Lib.hid ht3
    have HB := Lib.hid hB
    have HK := Lib.hid hK
    clear hbad ht2 ht3 hB hK hpre x0 x1 x2 z2 z3 z4 xb
    gi_wp2_with fail
    refine ⟨by simp, .inl ⟨_, _, rfl, run_takeDeferred HK.out, ?_⟩⟩
    exact ⟨_, results_pa rfl rfl ((World.putObj_heap_other (by have := HXS.out; omega)).trans HT2.out) ((World.putObj_heap_other (by have := HXS.out; omega)).trans HT3.out), .inr ⟨rfl, HBAD.out⟩, HB.out.trans (belowK_b (w := w) (Nat.le_refl _) _ D _ _ (by have := HXS.out; omega) HK.out rfl rfl)⟩
end Go.Proofs.YtmbimnphdhmapaaDoor
