/- The program's Parse. -/
import Derived.Test.YthlpigffjbhmoaaDoorEParM
import Derived.Test.YthlpigffjbhmoaaDoorVSli
set_option linter.unusedVariables false
set_option linter.unusedSimpArgs false
namespace Go.Proofs.YthlpigffjbhmoaaDoor
open Go.RowKit Go.Shelf
attribute [local go_sem] Oper.semAt_some
/-- Appending rows that lie somewhere, in a round. -/
theorem wpListIn_OwnE {F : Fence} {n : Nat} {w : World} {ops : Array Oper} {rest : List Oper} {o : Oper} {a : Act} {Q : Exit → Act → World → Prop} (hgd : o.guard = none) (s x : Operand)
    (ho : o.op = .call { callee := .builtin .append, args := #[s, x], argTypes := #[22, 22] })
    (base : Nat) (v : Value) (ls : List Rw) (hs : a.eval s = v) (hown : OwnE base w v ls) (ad : Addr) (m c : Nat) (zs : List Rw) (hx : a.eval x = .slice (some ad) m c) (hm : zs.length = m) (hz : ∀ j u, (valsE zs)[j]? = some u → w.cell? (ad.add j) = some u)
    (N : Nat) (hN : ls.length + m = N) (hlen : N ≤ 1000000) (hbase : base ≤ w.heap.size)
    (h : ∀ a' c' w', OwnE base w' (.slice a' N c') (ls ++ zs) → w.grownBy w' v.ownBlock → wpListIn F n Tryd.prog ops Q rest (a.put o.dst (.slice a' N c')) w') : wpListIn F n Tryd.prog ops Q (o :: rest) a w := by
  obtain ⟨i, hi, hzz, hsz, hby⟩ := partsE
  refine wpListIn_append_own w hgd s x _ ho base 42 i _ 2 32 Tryd.underlying22 hi hzz hsz hby rfl (by decide) v ls.length (valsE ls) hs hown ad m c (valsE zs) hx (by rw [valsE_len, hm]) hz valsE_one (by unfold maxLen; omega) (by omega) hbase ?_
  intro v' w' h2 h3 _
  have hO : OwnE base w' v' (ls ++ zs) := by
    have e := valsE_app ls zs
    unfold OwnE
    rw [← e, List.length_append, hm]
    exact h2
  obtain ⟨a', c', rfl, _⟩ := hO.form
  rw [show (ls ++ zs).length = N by rw [List.length_append, hm, hN]] at hO ⊢
  exact h a' c' w' hO h3
theorem OwnE.caps2 {B n c : Nat} {a : Option Addr} {W : World} {xs : List Rw} (h : OwnE B W (.slice a n c) xs) : xs.length ≤ c ∧ c ≤ maxLen := by
  obtain ⟨a', c', e, h1, h2⟩ := h.form
  injection e with _ _ e3
  rw [e3]
  exact ⟨h1, h2⟩
theorem ves_of {B n c : Nat} {a : Option Addr} {W : World} {xs : List Rw} {l : List Ve} (h : OwnE B W (.slice a n c) xs) (hr : RwO B W xs l) : VesAt W.heap.size W a l := h.ves hr.rwis
set_option maxRecDepth 100000 in
set_option maxHeartbeats 8000000 in
theorem parse_any (s : List UInt8) (hs : s.length ≤ 1000000) (w : World) (hT : TabsD w) : Calls Tryd.prog 11 #[strL s] w fun e w' => ParsE s e w' ∧ Below w.heap.size w w' := by
  have HT := Lib.hid hT
  have HSL := Lib.hid hs
  have hw2 : ((w.alloc (.cells #[.slice none 0 0] 22)).alloc (.cells #[.int .i64 0] 3)).heap.size = w.heap.size + 2 := by simp
  have q0 := heap_old (heap_alloc_new w (.cells #[.slice none 0 0] 22)) (.cells #[.int .i64 0] 3)
  have q1 := heap_alloc_new (w.alloc (.cells #[.slice none 0 0] 22)) (.cells #[.int .i64 0] 3)
  rw [World.size_alloc] at q1
  have qb := ((Below.refl _ w).alloc (Nat.le_refl _) (.cells #[.slice none 0 0] 22)).alloc (by simp) (.cells #[.int .i64 0] 3)
  have p0 := heap_old q0 (.cells #[strL s] 9)
  have p1 := heap_old q1 (.cells #[strL s] 9)
  have p2 := heap_alloc_new ((w.alloc (.cells #[.slice none 0 0] 22)).alloc (.cells #[.int .i64 0] 3)) (.cells #[strL s] 9)
  have xb := qb.alloc (by simp; omega) (.cells #[strL s] 9)
  rw [hw2] at p2
  have xsz : (((w.alloc (.cells #[.slice none 0 0] 22)).alloc (.cells #[.int .i64 0] 3)).alloc (.cells #[strL s] 9)).heap.size = w.heap.size + 3 := by rw [World.size_alloc, hw2]
  obtain ⟨X, hX⟩ : ∃ X, (((w.alloc (.cells #[.slice none 0 0] 22)).alloc (.cells #[.int .i64 0] 3)).alloc (.cells #[strL s] 9)) = X := ⟨_, rfl⟩
  rw [hX] at p0 p1 p2 xb xsz
  have HX := Lib.hid hX
  have HXS := Lib.hid xsz
  have HW2 := Lib.hid hw2
  have HFL := Lib.hid (lines_flat s)
  clear hT hs hX xsz q0 q1 qb hw2
  refine (callsIn_wide (n := 8)).1 ?_
  refine callsIn_of_wp_marks Tryd.func11 rfl trivial ?_ rfl
  simp only [Tryd.ntmps11, List.size_toArray, List.length_cons, List.length_nil, Nat.reduceAdd, Nat.reduceSub, Array.replicate_succ, Array.replicate_zero, List.push_toArray, List.append_toArray, List.nil_append, List.cons_append]
  gi_wp2
  refine wpIn_scope_straight (wpIn_seq ?_)
  gi_wp2
  refine wpIn_label ?_
  gi_wp2_with fail
  refine ⟨trivial, ?_⟩
  refine (linesOf_in _ s _).mono ?_
  rintro e w' ⟨rfl, hw⟩
  obtain rfl : X = w' := HX.out.symm.trans hw.symm
  rw [HW2.out]
  clear HX hw HW2
  gi_wp2_with fail
  refine wpIn_rangeFunc_new (gf := 42) (lb := #[.pointer (some ⟨w.heap.size + 2, 0, none⟩)]) rfl (enters_of Tryd.func42 (by kernel_rfl) rfl)
    (linesL s) encN (fun j => j = w.heap.size ∨ j = w.heap.size + 1) 0
    (linesOf_seq (8 - 1) (by omega) (w.heap.size + 2) s HSL.out _ X (fun j hj => by have := HXS.out; omega) p2) (fun _ _ => rfl) (fun j hj => by have := HXS.out; omega)
    (fun pre W => (∃ va vc xs l, W.heap[w.heap.size]? = some (.cells #[.slice va xs.length vc] 22 (0, 0)) ∧ OwnE (X.heap.size + 7) W (.slice va xs.length vc) xs ∧ RwO (X.heap.size + 7) W xs l ∧ SoFar pre l) ∧ W.heap[w.heap.size + 1]? = some (.cells #[.int .i64 0] 3 (0, 0)) ∧ Below w.heap.size w W)
    (fun q W => (∃ n, Stopped q n ∧ W.heap[w.heap.size + 1]? = some (.cells #[.int .i64 n] 3 (0, 0))) ∧ Below w.heap.size w W)
    (fun pre X' Y row hs hg hr => by
      obtain ⟨⟨va, vc, xs, l, e1, e2, e3, e4⟩, e5, e6⟩ := hs
      have hX := HXS.out
      refine ⟨⟨va, vc, xs, l, (hg.block _ (Array.getElem?_eq_some_iff.1 e1).1 (fun e => by have := hr _ e.symm; omega)).trans e1, e2.kept (fun k hk => hg.block k (e2.row k hk).2 (fun e => by have := hr _ e.symm; have := (e2.row k hk).1; omega)), e3.kept (fun k cur h1 h2 h3 => hg.block k h2 (fun e => by have := hr _ e.symm; omega)), e4⟩, (hg.block _ (Array.getElem?_eq_some_iff.1 e5).1 (fun e => by have := hr _ e.symm; omega)).trans e5, steady_below X.heap.size (X.heap.size + 6) _ _ (by omega) (Nat.le_refl _) X' Y row e6 hg hr⟩)
    (fun pre X' Y row hs hg hr => by
      obtain ⟨⟨n, e1, e5⟩, e6⟩ := hs
      have hX := HXS.out
      exact ⟨⟨n, e1, (hg.block _ (Array.getElem?_eq_some_iff.1 e5).1 (fun e => by have := hr _ e.symm; omega)).trans e5⟩, steady_below X.heap.size (X.heap.size + 6) _ _ (by omega) (Nat.le_refl _) X' Y row e6 hg hr⟩)
    ⟨⟨none, 0, [], [], p0, OwnE.nil _ _, RwO.nil _ _, soFar_nil⟩, p1, xb⟩
    (fun pre x a₁ W => a₁ = { tmps := #[strL s, undef, .slice none 0 0, .int .i64 0, .int .i64 0, .pointer (some ⟨w.heap.size, 0, none⟩), .pointer (some ⟨w.heap.size + 1, 0, none⟩), .int .i64 ((pre.length : Int) + 1), strL x, undef, undef, strL s, .func (.func 42) #[] #[.pointer (some ⟨w.heap.size + 2, 0, none⟩)], .int .i64 ((pre.length : Int) + 1), strL x, undef, undef, undef, undef, undef, undef, undef, undef, undef, undef, undef, undef, undef, undef, undef, undef, undef, undef, undef, undef, undef, undef], defers := [] })
    (fun pre x a₁ X' Y row hs hg hr => hs)
    ?assign ?body ?done ?stop
  case assign =>
    intro l pre x W K hsz hpre hI hK
    unfold encN
    gi_wp2
    exact hK _ _ (Only.refl _ _ _) hI rfl
  case body =>
    rintro l' pre x a₁ W hsz hpre ⟨⟨va, vc, xs, l, hv, hO, hR, hSF⟩, ht3, hB⟩ rfl
    have hX := HXS.out
    have hxl : x.length ≤ 1000000 := by
      obtain ⟨t, ht⟩ := hpre
      have h1 := congrArg List.length HFL.out
      rw [← ht] at h1
      simp at h1
      have := HSL.out
      omega
    have HVI := Lib.hid (versionIn_any x hxl W (HT.out.next hB (Nat.le_refl _)))
    have HV := Lib.hid hv
    have HO := Lib.hid hO
    have HR := Lib.hid hR
    have HSF := Lib.hid hSF
    have HT3 := Lib.hid ht3
    have HB := Lib.hid hB
    have HSZ := Lib.hid hsz
    clear hv hO hR hSF ht3 hB p0 p1 p2 xb hxl hX hpre hsz
    gi_wp2_with fail
    refine ⟨trivial, ?_⟩
    refine (callsIn_wide.2 HVI.out).mono ?_
    rintro e w2 ⟨⟨v, a, c, ok, rfl, hOP, hVI⟩, hB2⟩
    obtain ⟨m, hm⟩ : ∃ m, v.ps.length = m := ⟨_, rfl⟩
    have hX := HXS.out
    have hsz := HSZ.out
    have hs2 := hB2.size
    rw [hm] at hOP ⊢
    -- the world with v's box
    obtain ⟨w3, hw3⟩ : ∃ w3, w2.alloc (.cells #[.int .i64 v.f, .slice a m c] 42) = w3 := ⟨_, rfl⟩
    have hb3 : Below w2.heap.size w2 w3 := by rw [← hw3]; exact (Below.refl _ w2).alloc (Nat.le_refl _) _
    have n3 : w3.heap[w2.heap.size]? = some (.cells #[.int .i64 v.f, .slice a m c] 42 (0, 0)) := by rw [← hw3]; exact heap_alloc_new w2 _
    have hs3 : w3.heap.size = w2.heap.size + 1 := by rw [← hw3]; exact World.size_alloc _ _
    have hbW := hB2.trans (hb3.mono hs2)
    have v3 := (hbW.block w.heap.size (by omega)).trans HV.out
    have t3 := (hbW.block (w.heap.size + 1) (by omega)).trans HT3.out
    have HO3 := Lib.hid (HO.out.below hbW (Nat.le_refl _))
    have HR3 := Lib.hid (HR.out.below hbW (Nat.le_refl _))
    have HP3 := Lib.hid ((hOP.base (by omega : X.heap.size + 7 ≤ W.heap.size)).below hb3 (Nat.le_refl _))
    have HB3 := Lib.hid (HB.out.trans (hbW.mono (by omega)))
    have HON3 := Lib.hid (Only.of hbW (by omega) : Only (X.heap.size + 7) (fun j => j = w.heap.size ∨ j = w.heap.size + 1) W w3)
    have c0 : w3.cell? ⟨w.heap.size, 0, none⟩ = some (.slice va xs.length vc) := cell_of_row _ _ 0 _ _ _ v3
    have c1 : w3.cell? ⟨w2.heap.size, 0, none⟩ = some (.int .i64 v.f) := cell_of_row _ _ 0 _ _ _ n3
    have c2 : w3.cell? ⟨w2.heap.size, 1, none⟩ = some (.slice a m c) := cell_of_row _ _ 1 _ _ _ n3
    have c3 : w3.cell? ⟨w.heap.size + 1, 0, none⟩ = some (.int .i64 0) := cell_of_row _ _ 0 _ _ _ t3
    have f3 := frozen_of_row w3 _ 0 _ _ t3
    have V3 := Lib.hid v3
    have T3 := Lib.hid t3
    have N3 := Lib.hid n3
    have HS3 := Lib.hid (show w3.heap.size = w2.heap.size + 1 ∧ W.heap.size ≤ w2.heap.size from ⟨hs3, hs2⟩)
    have HVI2 := Lib.hid hVI
    have HM := Lib.hid hm
    have HWW := Lib.hid hw3
    have HSZ7 := Lib.hid hsz
    clear hOP hVI hB2 hb3 hbW v3 t3 n3 hs3 hs2 hm hsz hX HVI HO HR HV HT3 HB HSZ hw3
    cases ok with
    | false =>
      have HST := Lib.hid (show Stopped (pre ++ [x]) ((pre.length : Int) + 1) from ⟨pre, x, l, rfl, HSF.out, verIs_no HVI2.out (.inl rfl), rfl⟩)
      rw [← HWW.out] at c0 c1 c2 c3 f3
      gi_wp2_with fail
      rw [HWW.out]
      refine ⟨trivial, ?_⟩
      rw [← HWW.out]
      gi_wp2_with fail
      rw [HWW.out]
      exact ⟨rfl, HON3.out.setCell ⟨w.heap.size + 1, 0, none⟩ (.inr rfl) _, ⟨_, HST.out, heap_setCell_same _ (w.heap.size + 1) 0 _ _ _ T3.out⟩, HB3.out.setCell (p := ⟨w.heap.size + 1, 0, none⟩) (Nat.le_succ _) _⟩
    | true =>
    have hl : l.length = xs.length := HR3.out.1.symm
    have h200 : xs.length ≤ 200 := by rw [← hl]; exact tab_len HSF.out.1
    have hmf := mayFollow_any va xs.length vc l hl v.f a m c v.ps HM.out w3 (ves_of HO3.out HR3.out) HP3.out.at (by unfold maxLen; omega) (by have := (HVI2.out.1 rfl).2.2; have := HM.out; unfold maxLen; omega)
    by_cases hfo : Follows l v
    case neg =>
      rw [decide_eq_false hfo] at hmf
      have HMF := Lib.hid hmf
      have HST := Lib.hid (show Stopped (pre ++ [x]) ((pre.length : Int) + 1) from ⟨pre, x, l, rfl, HSF.out, verIs_no HVI2.out (.inr hfo), rfl⟩)
      clear hmf hfo hl h200
      rw [← HWW.out] at c0 c1 c2 c3 f3
      gi_wp2_with fail
      rw [HWW.out]
      refine ⟨trivial, ?_⟩
      refine (callsIn_wide.2 HMF.out).mono ?_
      rintro e w4 ⟨rfl, hB4⟩
      have t4 := (hB4.block (w.heap.size + 1) (by have := HS3.out; have := (Array.getElem?_eq_some_iff.1 T3.out).1; omega)).trans T3.out
      have d3 : w4.cell? ⟨w.heap.size + 1, 0, none⟩ = some (.int .i64 0) := cell_of_row _ _ 0 _ _ _ t4
      have g3 := frozen_of_row w4 _ 0 _ _ t4
      have T4 := Lib.hid t4
      have HB4 := Lib.hid (HB3.out.trans (hB4.mono HB3.out.size))
      have HON4 := Lib.hid (HON3.out.trans (Only.of hB4 (by have := HSZ7.out; have := HS3.out; omega)))
      clear t4 hB4 c0 c1 c2 c3 f3
      gi_wp2_with fail
      exact ⟨rfl, HON4.out.setCell ⟨w.heap.size + 1, 0, none⟩ (.inr rfl) _, ⟨_, HST.out, heap_setCell_same _ (w.heap.size + 1) 0 _ _ _ T4.out⟩, HB4.out.setCell (p := ⟨w.heap.size + 1, 0, none⟩) (Nat.le_succ _) _⟩
    case pos =>
      rw [decide_eq_true hfo] at hmf
      have HMF := Lib.hid hmf
      have HSF2 := Lib.hid (soFar_snoc HSF.out HVI2.out hfo)
      have H200 := Lib.hid h200
      clear hmf hfo hl h200
      rw [← HWW.out] at c0 c1 c2 c3 f3
      gi_wp2_with fail
      rw [HWW.out]
      refine ⟨trivial, ?_⟩
      refine (callsIn_wide.2 HMF.out).mono ?_
      rintro e w4 ⟨rfl, hB4⟩
      have hS3 := HS3.out
      have hW3 := HON3.out.size
      have hlt := (Array.getElem?_eq_some_iff.1 T3.out).1
      have v4 := (hB4.block w.heap.size (by omega)).trans V3.out
      have t4 := (hB4.block (w.heap.size + 1) hlt).trans T3.out
      have n4 := (hB4.block w2.heap.size (by omega)).trans N3.out
      have hs4 := hB4.size
      have d0 : w4.cell? ⟨w.heap.size, 0, none⟩ = some (.slice va xs.length vc) := cell_of_row _ _ 0 _ _ _ v4
      have d1 : w4.cell? ⟨w2.heap.size, 0, none⟩ = some (.int .i64 v.f) := cell_of_row _ _ 0 _ _ _ n4
      have d2 : w4.cell? ⟨w2.heap.size, 1, none⟩ = some (.slice a m c) := cell_of_row _ _ 1 _ _ _ n4
      have HO4 := Lib.hid (HO3.out.below hB4 (Nat.le_refl _))
      have HR4 := Lib.hid (HR3.out.below hB4 (Nat.le_refl _))
      have HP4 := Lib.hid (HP3.out.below hB4 (Nat.le_refl _))
      have HB4 := Lib.hid (HB3.out.trans (hB4.mono HB3.out.size))
      have hX7 : X.heap.size + 7 ≤ w4.heap.size := by have := HSZ7.out; omega
      have HX7 := Lib.hid hX7
      have HON4 := Lib.hid (HON3.out.trans (Only.of hB4 (by have := HSZ7.out; omega)))
      -- the block of the appended row
      have r5 := heap_alloc_new w4 (.cells #[.int .i64 v.f, .slice a m c] 42)
      have bb5 := (Below.refl _ w4).alloc (Nat.le_refl _) (.cells #[.int .i64 v.f, .slice a m c] 42)
      have R0 := Lib.hid (cell_of_row _ w4.heap.size 0 _ _ _ r5 : (w4.alloc (.cells #[.int .i64 v.f, .slice a m c] 42)).cell? ⟨w4.heap.size, 0, none⟩ = some (.int .i64 v.f))
      have R1 := Lib.hid (cell_of_row _ w4.heap.size 1 _ _ _ r5 : (w4.alloc (.cells #[.int .i64 v.f, .slice a m c] 42)).cell? ⟨w4.heap.size, 1, none⟩ = some (.slice a m c))
      have HS5 := Lib.hid (World.size_alloc w4 (.cells #[.int .i64 v.f, .slice a m c] 42))
      have HO5 := Lib.hid (HO4.out.below bb5 (Nat.le_refl _))
      have HR5 := Lib.hid (HR4.out.below bb5 (Nat.le_refl _))
      have HP5 := Lib.hid (HP4.out.below bb5 (Nat.le_refl _))
      have V5 := Lib.hid (heap_old v4 (.cells #[.int .i64 v.f, .slice a m c] 42))
      have T5 := Lib.hid (heap_old t4 (.cells #[.int .i64 v.f, .slice a m c] 42))
      have HON5 := Lib.hid (HON4.out.alloc hX7 (.cells #[.int .i64 v.f, .slice a m c] 42))
      have HB5 := Lib.hid (HB4.out.alloc HB4.out.size (.cells #[.int .i64 v.f, .slice a m c] 42))
      obtain ⟨PL, hPL⟩ : ∃ PL, PL = xs.length := ⟨_, rfl⟩
      have HPL := Lib.hid hPL
      rw [← hPL] at d0
      clear r5 bb5 v4 t4 n4 hB4 c0 c1 c2 c3 f3 hPL hX7 hlt hW3
      gi_wp2_with (first
        | (gi_at_builtin; refine wpListIn_OwnE rfl (.tmp 29) (.tmp 31) rfl (X.heap.size + 7) _ xs rfl (by rw [HPL.out]; exact HO5.out) ⟨w4.heap.size, 0, none⟩ 1 1 [⟨v.f, a, m, c⟩] rfl rfl (one_cells R0.out R1.out) (PL + 1) (by rw [HPL.out]) (by have := H200.out; have := HPL.out; omega) (by rw [HS5.out]; have := HX7.out; omega) ?_; intro a2 c5 W7 hO7 hG7
           have hv7 := (hG7.block w.heap.size (by rw [HS5.out]; have := HX7.out; have := HXS.out; omega) (fun e => by have := (HO5.out.row w.heap.size (by rw [← HPL.out]; exact e.symm)).1; have := HXS.out; omega)).trans V5.out
           have z0 : W7.cell? ⟨w.heap.size, 0, none⟩ = _ := cell_of_row _ _ 0 _ _ _ hv7
           have zf : W7.frozen? ⟨w.heap.size, 0, none⟩ = false := frozen_of_row W7 _ 0 _ _ hv7))
      have hrow : ∀ r, (Value.slice va PL vc).ownBlock = some r → X.heap.size + 7 ≤ r := fun r e => (HO5.out.row r (by rw [← HPL.out]; exact e)).1
      have hX := HXS.out
      have hS5 := HS5.out
      have hX7 := HX7.out
      have t7 := (hG7.block (w.heap.size + 1) (by omega) (fun e => by have := hrow _ e.symm; omega)).trans T5.out
      have hON7 := HON5.out.trans (Only.grown hG7 (by rw [hS5]; omega) (fun r e => .inl (hrow r e)))
      have hB7 := HB5.out.trans ((Below.refl w.heap.size _).grown hG7 (by omega) (fun r e => by have := hrow r e; omega))
      have key : ∀ k cur, X.heap.size + 7 ≤ k → k < (w4.alloc (.cells #[.int .i64 v.f, .slice a m c] 42)).heap.size → (w4.alloc (.cells #[.int .i64 v.f, .slice a m c] 42)).heap[k]? = some (.cells cur 2 (0, 0)) → W7.heap[k]? = (w4.alloc (.cells #[.int .i64 v.f, .slice a m c] 42)).heap[k]? := fun k cur _ h2 h3 => hG7.block k h2 (fun e => by
        obtain ⟨cur2, q⟩ := HO5.out.typed k (by rw [← HPL.out]; exact e.symm)
        rw [h3] at q
        exact absurd (Obj.cells.inj (Option.some.inj q)).2.1 (by decide))
      have hR7 := HR5.out.kept key
      have hP7 := HP5.out.kept (fun k e => let ⟨q1, q2, cur, q3⟩ := HP5.out.typed k e; key k cur q1 q2 q3)
      have hRS := hR7.snoc (r := ⟨v.f, a, m, c⟩) (v := v) rfl HM.out.symm hP7
      have hset : ∀ k, k ≠ w.heap.size → (W7.setCell ⟨w.heap.size, 0, none⟩ (.slice a2 (PL + 1) c5)).heap[k]? = W7.heap[k]? := fun k hk => heap_setCell_other _ ⟨w.heap.size, 0, none⟩ k _ hk
      refine ⟨hON7.setCell ⟨w.heap.size, 0, none⟩ (.inl rfl) _, ⟨a2, c5, xs ++ [⟨v.f, a, m, c⟩], l ++ [v], ?_, ?_, hRS.kept (fun k cur h1 h2 h3 => hset k (by omega)), HSF2.out⟩, (hset _ (by omega)).trans t7, hB7.setCell (p := ⟨w.heap.size, 0, none⟩) (Nat.le_refl _) _⟩
      · rw [show (xs ++ [(⟨v.f, a, m, c⟩ : Rw)]).length = PL + 1 by rw [List.length_append, ← HPL.out]; rfl]
        exact heap_setCell_same _ w.heap.size 0 _ _ _ hv7
      · rw [show (xs ++ [(⟨v.f, a, m, c⟩ : Rw)]).length = PL + 1 by rw [List.length_append, ← HPL.out]; rfl]
        exact hO7.kept (fun k hk => hset k (by have := (hO7.row k hk).1; omega))
  case done =>
    rintro D W rfl ⟨⟨va, vc, xs, l, hv, hO, hR, hSF⟩, ht3, hB⟩ hK
    have c0 : W.cell? ⟨w.heap.size, 0, none⟩ = some (.slice va xs.length vc) := cell_of_row _ _ 0 _ _ _ hv
    have c3 : W.cell? ⟨w.heap.size + 1, 0, none⟩ = some (.int .i64 0) := cell_of_row _ _ 0 _ _ _ ht3
    have HO := Lib.hid hO
    have HR := Lib.hid hR
    have HSF := Lib.hid hSF
    have HB := Lib.hid hB
    have HK := Lib.hid hK
    have hX := HXS.out
    clear hv hO hR hSF ht3 hB hK p0 p1 p2 xb
    gi_wp2_with fail
    refine ⟨by simp, .inl ⟨_, _, rfl, run_takeDeferred HK.out, ?_⟩⟩
    refine ⟨_, results_p rfl rfl rfl, ⟨l, va, vc, 0, 0, by rw [HR.out.1]; rfl, ?_, ?_, parse_yes HSF.out⟩, HB.out.trans (belowK_b (w := w) (Nat.le_refl _) _ _ _ _ (by omega) HK.out rfl rfl)⟩
    · have hO2 : OwnE (X.heap.size + 7) (W.putObj X.heap.size (.deferred none)) (.slice va xs.length vc) xs := ownsRow_putObj HO.out _ HK.out rfl
      have hR2 : RwO (X.heap.size + 7) (W.putObj X.heap.size (.deferred none)) xs l := HR.out.kept (fun k cur h1 _ _ => World.putObj_heap_other (by omega))
      exact ves_of hO2 hR2
    · have := HO.out.caps2
      rw [← HR.out.1]
      exact this
  case stop =>
    rintro D q W rfl hpre ⟨⟨n, hst, ht3⟩, hB⟩ hK
    have c3 : W.cell? ⟨w.heap.size + 1, 0, none⟩ = some (.int .i64 n) := cell_of_row _ _ 0 _ _ _ ht3
    have hn0 : (0 : Int) < n := by
      obtain ⟨pre, _, _, _, _, _, rfl⟩ := hst
      omega
    have HST := Lib.hid (parse_stop hpre hst)
    have HB := Lib.hid hB
    have HK := Lib.hid hK
    have hX := HXS.out
    clear hst ht3 hB hK hpre p0 p1 p2 xb
    gi_wp2_with fail
    gi_region
    gi_wp2_with fail
    refine ⟨by simp, .inl ⟨_, _, rfl, run_takeDeferred (by exact HK.out), ?_⟩⟩
    refine ⟨_, results_p rfl rfl rfl, ⟨[], none, 0, n, 100, rfl, VesAt.nil, ⟨Nat.le_refl _, Nat.zero_le _⟩, HST.out⟩, HB.out.drew.trans (belowK_b (w := w) (Nat.le_refl _) _ _ _ _ (by omega) (by exact HK.out) rfl rfl)⟩
end Go.Proofs.YthlpigffjbhmoaaDoor
