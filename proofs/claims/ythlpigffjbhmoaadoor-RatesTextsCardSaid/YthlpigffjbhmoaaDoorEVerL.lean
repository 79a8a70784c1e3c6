/- The program's versionIn: its loop over prices. -/
import Derived.Test.YthlpigffjbhmoaaDoorEVer
set_option linter.unusedVariables false
set_option linter.unusedSimpArgs false
namespace Go.Proofs.YthlpigffjbhmoaaDoor
open Go.RowKit Go.Shelf
attribute [local go_sem] Oper.semAt_some
theorem set_three {W : World} {b : Nat} {x y z u v q : Value} (h0 : W.heap[b]? = some (.cells #[x, y] 42 (0, 0))) (h1 : W.heap[b + 1]? = some (.cells #[z] 4 (0, 0))) :
    (((W.setCell ⟨b, 0, none⟩ u).setCell ⟨b, 1, none⟩ v).setCell ⟨b + 1, 0, none⟩ q).heap[b]? = some (.cells #[u, v] 42 (0, 0)) ∧
    (((W.setCell ⟨b, 0, none⟩ u).setCell ⟨b, 1, none⟩ v).setCell ⟨b + 1, 0, none⟩ q).heap[b + 1]? = some (.cells #[q] 4 (0, 0)) ∧
    ∀ k, k ≠ b → k ≠ b + 1 → (((W.setCell ⟨b, 0, none⟩ u).setCell ⟨b, 1, none⟩ v).setCell ⟨b + 1, 0, none⟩ q).heap[k]? = W.heap[k]? := by
  refine ⟨(heap_setCell_other _ ⟨b + 1, 0, none⟩ b _ (by show b ≠ b + 1; omega)).trans (heap_setCell_same _ b 1 _ _ _ (heap_setCell_same _ b 0 _ _ _ h0)), heap_setCell_same _ (b + 1) 0 _ _ _ ((heap_setCell_other _ ⟨b, 1, none⟩ (b + 1) _ (by show b + 1 ≠ b; omega)).trans ((heap_setCell_other _ ⟨b, 0, none⟩ (b + 1) _ (by show b + 1 ≠ b; omega)).trans h1)), fun k hk hk' => ?_⟩
  exact (heap_setCell_other _ ⟨b + 1, 0, none⟩ k _ hk').trans ((heap_setCell_other _ ⟨b, 1, none⟩ k _ hk).trans (heap_setCell_other _ ⟨b, 0, none⟩ k _ hk))
set_option maxRecDepth 100000 in
set_option maxHeartbeats 8000000 in
theorem ver_d (s cc a b : List UInt8) (hs : s.length ≤ 1000000) (hsc : s = cc ++ [10]) (hcc : cc = a ++ 32 :: b) (hyes : Lib.hasSuffix s [10] = true) (htr : Lib.trimSuffix s [10] = cc) (ha : (32 : UInt8) ∉ a) (hcut : Lib.cut cc [32] = (a, b, true)) (m0 : Int) (hm0 : I64 m0) (ham : a = Lib.itoa m0) (w : World) (hT : TabsD w) : Calls Tryd.prog 29 #[strL s] w fun e w' => VerE w.heap.size s e w' ∧ Below w.heap.size w w' := by
  have hl : cc.length ≤ 1000000 ∧ a.length ≤ 1000000 ∧ b.length ≤ 1000000 := by rw [hsc, hcc] at hs; rw [hcc]; simp at hs ⊢; omega
  have hsf := fun W => suffix_any s hs W
  rw [hyes, htr] at hsf
  have HSF := Lib.hid hsf
  have hct := fun W (hB : Below w.heap.size w W) => cut_any cc hl.1 W (hT.next hB (Nat.le_refl _))
  rw [hcut] at hct
  simp only at hct
  have HCT := Lib.hid hct
  have HNI := Lib.hid (fun (x : List UInt8) (hx : x.length ≤ 1000000) W (hB : Below w.heap.size w W) => numberIn_any ⟨x.toArray⟩ (by show x.toArray.size ≤ _; simp; omega) W (hT.next hB (Nat.le_refl _)))
  have HTW := Lib.hid (two_new w)
  have HA := Lib.hid (show I64 m0 ∧ a = Lib.itoa m0 from ⟨hm0, ham⟩)
  have HBADV := Lib.hid (fun pre (hp : pre <+: pieces b) (hb : BadP pre) => (show ∀ u, VerMay u → s ≠ lineL u by rw [hsc, hcc]; exact ver_bad ha hp hb))
  have HYESV := Lib.hid (fun n ps (hn : I64 n ∧ a = Lib.itoa n) (hr : ReadP (pieces b) ps) => (show VerIs s ⟨n, ps⟩ true by rw [hsc, hcc]; exact ver_yes hn hr))
  have HLEN := Lib.hid hl
  clear hsf hct hsc hyes htr ha hcut hT hcc hl hm0 ham
  refine (callsIn_wide (n := 6)).1 ?_
  refine callsIn_of_wp_marks Tryd.func29 rfl trivial ?_ rfl
  simp only [Tryd.ntmps29, List.size_toArray, List.length_cons, List.length_nil, Nat.reduceAdd, Nat.reduceSub, Array.replicate_succ, Array.replicate_zero, List.push_toArray, List.append_toArray, List.nil_append, List.cons_append]
  gi_wp2_with fail
  refine ⟨trivial, ?_⟩
  refine (callsIn_wide.2 (HSF.out _)).mono ?_
  rintro e w1 ⟨rfl, rfl⟩
  gi_wp2_with fail
  refine ⟨trivial, ?_⟩
  refine (callsIn_wide.2 (HCT.out _ HTW.out.2.1)).mono ?_
  rintro e w2 ⟨rfl, hB⟩
  have hs2 := HTW.out.1
  have H0 := Lib.hid ((hB.block w.heap.size (by omega)).trans HTW.out.2.2.1)
  have H1 := Lib.hid ((hB.block (w.heap.size + 1) (by omega)).trans HTW.out.2.2.2)
  have HSZ := Lib.hid (show w.heap.size + 2 ≤ w2.heap.size by have := hB.size; omega)
  have HB2 := Lib.hid (HTW.out.2.1.trans (hB.mono HTW.out.2.1.size))
  clear hB hs2 HSF HCT HTW
  gi_wp2_with fail
  refine ⟨trivial, ?_⟩
  refine (callsIn_wide.2 (HNI.out a HLEN.out.2.1 _ HB2.out)).mono ?_
  rintro e w3 ⟨⟨n, ok, hnum, rfl⟩, hB⟩
  cases ok with
  | false => exact absurd HA.out.2 (hnum.2 rfl m0 HA.out.1)
  | true =>
  have HN := Lib.hid (show I64 n ∧ a = Lib.itoa n from hnum.1 rfl)
  have hsz2 := HSZ.out
  have hsz3 : w.heap.size + 2 ≤ w3.heap.size := by have := hB.size; omega
  have h0 := (hB.block w.heap.size (by omega)).trans H0.out
  have h1 := (hB.block (w.heap.size + 1) (by omega)).trans H1.out
  have HB3 := Lib.hid (HB2.out.trans (hB.mono HB2.out.size))
  obtain ⟨z, hz⟩ : ∃ z, w3.heap.size = z := ⟨_, rfl⟩
  -- the box of the prices, and the iterator's boxes
  have p0 := heap_old (heap_old (heap_old (heap_old h0 (.cells #[.slice none 0 0] 38)) (.cells #[strL b] 9)) (.cells #[.string ⟨#[32]⟩] 9)) (.cells #[.int .i64 0] 3)
  have p1 := heap_old (heap_old (heap_old (heap_old h1 (.cells #[.slice none 0 0] 38)) (.cells #[strL b] 9)) (.cells #[.string ⟨#[32]⟩] 9)) (.cells #[.int .i64 0] 3)
  have p2 := heap_old (heap_old (heap_old (heap_alloc_new w3 (.cells #[.slice none 0 0] 38)) (.cells #[strL b] 9)) (.cells #[.string ⟨#[32]⟩] 9)) (.cells #[.int .i64 0] 3)
  have x0 := heap_old (heap_old (heap_alloc_new (w3.alloc (.cells #[.slice none 0 0] 38)) (.cells #[strL b] 9)) (.cells #[.string ⟨#[32]⟩] 9)) (.cells #[.int .i64 0] 3)
  have x1 := heap_old (heap_alloc_new ((w3.alloc (.cells #[.slice none 0 0] 38)).alloc (.cells #[strL b] 9)) (.cells #[.string ⟨#[32]⟩] 9)) (.cells #[.int .i64 0] 3)
  have x2 := heap_alloc_new (((w3.alloc (.cells #[.slice none 0 0] 38)).alloc (.cells #[strL b] 9)).alloc (.cells #[.string ⟨#[32]⟩] 9)) (.cells #[.int .i64 0] 3)
  have xb : Below w.heap.size w (boxes (w3.alloc (.cells #[.slice none 0 0] 38)) b) := (((HB3.out.alloc (by omega) _).alloc (by simp; omega) _).alloc (by simp; omega) _).alloc (by simp; omega) _
  have xsz : (boxes (w3.alloc (.cells #[.slice none 0 0] 38)) b).heap.size = z + 4 := by simp [World.size_alloc, hz]
  simp only [World.size_alloc, hz] at p2 x0 x1 x2
  obtain ⟨X, hX⟩ : ∃ X, boxes (w3.alloc (.cells #[.slice none 0 0] 38)) b = X := ⟨_, rfl⟩
  rw [hX] at xb xsz
  have hX' := hX
  unfold boxes at hX'
  rw [hX'] at p0 p1 p2 x0 x1 x2
  have HX := Lib.hid hX
  have HXS := Lib.hid xsz
  have HZ := Lib.hid (show w.heap.size + 2 ≤ z by omega)
  have HSZ0 := Lib.hid (show (w3.alloc (.cells #[.slice none 0 0] 38)).heap.size = z + 1 by simp [hz])
  have HZE := Lib.hid hz
  clear hB hnum hsz2 hsz3 h0 h1 hX hX' xsz hz H0 H1 HSZ HB2 HB3
  gi_wp2_with fail
  refine ⟨trivial, ?_⟩
  refine (SplitSeq_in _ (by omega) b _).mono ?_
  rintro e w' ⟨rfl, hw⟩
  obtain rfl : X = w' := HX.out.symm.trans hw.symm
  rw [HSZ0.out, HZE.out]
  clear HX hw HSZ0 HZE
  gi_wp2_with fail
  refine wpIn_rangeFunc_box (gf := 70) (lb := #[.pointer (some ⟨z + 1 + 1, 0, none⟩), .pointer (some ⟨z + 1, 0, none⟩), .pointer (some ⟨z + 1 + 2, 0, none⟩)]) rfl (enters_of Tryd.func70 (by kernel_rfl) rfl)
    (pieces b) encP (z + 1) (by rw [HXS.out]; omega) (fun j => j = w.heap.size ∨ j = w.heap.size + 1 ∨ j = z)
    (split_seq (6 - 1) (by omega) (z + 1) (z + 1 + 1) (z + 1 + 2) ⟨by omega, by omega⟩ b HLEN.out.2.2 _ (fun j hj => by have := HZ.out; omega) X x0 x1 x2) (fun _ => rfl) (fun j hj => by rw [HXS.out]; have := HZ.out; omega)
    (fun pre W => ((∃ v ps, W.heap[z]? = some (.cells #[v] 38 (0, 0)) ∧ OwnP (X.heap.size + 2) W v ps ∧ ReadP pre ps) ∧ W.heap[w.heap.size]? = some (.cells #[.int .i64 0, .slice none 0 0] 42 (0, 0)) ∧ W.heap[w.heap.size + 1]? = some (.cells #[.bool false] 4 (0, 0))) ∧ Below w.heap.size w W)
    (fun pre W => (BadP pre ∧ W.heap[w.heap.size]? = some (.cells #[.int .i64 0, .slice none 0 0] 42 (0, 0)) ∧ W.heap[w.heap.size + 1]? = some (.cells #[.bool false] 4 (0, 0))) ∧ Below w.heap.size w W)
    (fun pre => SteadyG.and (SteadyG.and (fun X' Y row hs hg hr => let ⟨v, ps, e1, e2, e3⟩ := hs; ⟨v, ps, (hg.block _ (Array.getElem?_eq_some_iff.1 e1).1 (fun e => by have := hr _ e.symm; have := HXS.out; omega)).trans e1, e2.kept (fun k hk => hg.block k (e2.row k hk).2 (fun e => by have := hr k e.symm; have := (e2.row k hk).1; have := HXS.out; omega)), e3⟩)
      (SteadyG.and (steadyG_block _ _ _ (fun e => by have := HXS.out; have := HZ.out; omega)) (steadyG_block _ _ _ (fun e => by have := HXS.out; have := HZ.out; omega)))) (steadyG_below _ _ _ (fun r e => by have := HXS.out; have := HZ.out; omega) (Nat.le_refl _)))
    (fun pre => SteadyG.and (SteadyG.and (steadyG_pure _ _) (SteadyG.and (steadyG_block _ _ _ (fun e => by have := HXS.out; have := HZ.out; omega)) (steadyG_block _ _ _ (fun e => by have := HXS.out; have := HZ.out; omega)))) (steadyG_below _ _ _ (fun r e => by have := HXS.out; have := HZ.out; omega) (Nat.le_refl _)))
    ⟨⟨⟨_, [], p2, OwnP.nil _ _, readP_nil⟩, p0, p1⟩, xb⟩
    (fun pre x a₁ W => a₁ = { tmps := #[strL s, undef, .pointer (some ⟨w.heap.size, 0, none⟩), .pointer (some ⟨w.heap.size + 1, 0, none⟩), strL cc, .bool true, strL a, strL b, .int .i64 n, .pointer (some ⟨z, 0, none⟩), strL x, undef, undef, .tuple #[strL cc, .bool true], strL s, .tuple #[strL cc, .bool true], strL cc, .bool true, .bool true, .bool false, undef, .tuple #[strL a, strL b, .bool true], strL cc, .tuple #[strL a, strL b, .bool true], strL a, strL b, .bool true, .bool true, .bool false, undef, .tuple #[.int .i64 n, .bool true], strL a, .tuple #[.int .i64 n, .bool true], .int .i64 n, .bool true, .bool true, .bool false, undef, strL b, .func (.func 70) #[] #[.pointer (some ⟨z + 1 + 1, 0, none⟩), .pointer (some ⟨z + 1, 0, none⟩), .pointer (some ⟨z + 1 + 2, 0, none⟩)], strL x, undef, undef, undef, undef, undef, undef, undef, undef, undef, undef, undef, undef, undef, undef, undef, undef, undef, undef, undef, undef], defers := [] })
    (fun pre x a₁ X' Y row hs hg hr => hs)
    ?assign ?body ?done ?stop
  case assign =>
    intro l pre x W K hsz hpre hI hK
    unfold encP
    gi_wp2
    exact hK _ _ (Only.refl _ _ _) hI rfl
  case body =>
    rintro l pre x a₁ W hsz hpre ⟨⟨⟨v, ps, hv, hO, hR⟩, ht2, ht3⟩, hB⟩ rfl
    obtain ⟨va, vc, rfl, _, _⟩ := hO.form
    have hxl : x.length ≤ 1000000 := by
      have hm : x ∈ pieces b := hpre.subset (by simp)
      have := pieces_len b x hm
      have := HLEN.out.2.2
      omega
    have HNX := Lib.hid (HNI.out x hxl W hB)
    have HV := Lib.hid hv
    have HO := Lib.hid hO
    have HR := Lib.hid hR
    have HT2 := Lib.hid ht2
    have HT3 := Lib.hid ht3
    have HB := Lib.hid hB
    have hp16 := hR.2.2
    clear hv hO hR ht2 ht3 hB x0 x1 x2 p0 p1 p2 xb hxl
    gi_wp2_with fail
    refine ⟨trivial, ?_⟩
    refine (callsIn_wide.2 HNX.out).mono ?_
    rintro e w5 ⟨⟨m, ok, hnum, rfl⟩, hB2⟩
    have HNUM := Lib.hid (show NumIs x m ok from hnum)
    have hlw : z + 6 ≤ W.heap.size := by have := HXS.out; omega
    have hzz := HZ.out
    have v2 := (hB2.block z (by omega)).trans HV.out
    have t2 := (hB2.block w.heap.size (by omega)).trans HT2.out
    have t3 := (hB2.block (w.heap.size + 1) (by omega)).trans HT3.out
    have hs2 := hB2.size
    have HO2 := Lib.hid (HO.out.below hB2 (Nat.le_refl _))
    have HB2 := Lib.hid (HB.out.trans (hB2.mono (by omega)))
    have HON := Lib.hid (Only.of hB2 (by have := HXS.out; omega) : Only (X.heap.size + 2) (fun j => j = w.heap.size ∨ j = w.heap.size + 1 ∨ j = z) W w5)
    have HZ5 := Lib.hid (show z + 6 ≤ w5.heap.size by omega)
    have c0 : w5.cell? ⟨z, 0, none⟩ = some (.slice va ps.length vc) := cell_of_row _ _ 0 _ _ _ v2
    have d0 : w5.cell? ⟨w.heap.size, 0, none⟩ = some (.int .i64 0) := cell_of_row _ _ 0 _ _ _ t2
    have d1 : w5.cell? ⟨w.heap.size, 1, none⟩ = some (.slice none 0 0) := cell_of_row _ _ 1 _ _ _ t2
    have d2 : w5.cell? ⟨w.heap.size + 1, 0, none⟩ = some (.bool false) := cell_of_row _ _ 0 _ _ _ t3
    have f0 := frozen_of_row w5 _ 0 _ _ t2
    have f1 := frozen_of_row w5 _ 1 _ _ t2
    have f2 := frozen_of_row w5 _ 0 _ _ t3
    have V5 := Lib.hid v2
    have T2 := Lib.hid t2
    have T3 := Lib.hid t3
    have HRET := Lib.hid (fun (hbad : BadP (pre ++ [x])) => (show Only (X.heap.size + 2) (fun j => j = w.heap.size ∨ j = w.heap.size + 1 ∨ j = z) W (((w5.setCell ⟨w.heap.size, 0, none⟩ (.int .i64 0)).setCell ⟨w.heap.size, 1, none⟩ (.slice none 0 0)).setCell ⟨w.heap.size + 1, 0, none⟩ (.bool false)) ∧ (BadP (pre ++ [x]) ∧ (((w5.setCell ⟨w.heap.size, 0, none⟩ (.int .i64 0)).setCell ⟨w.heap.size, 1, none⟩ (.slice none 0 0)).setCell ⟨w.heap.size + 1, 0, none⟩ (.bool false)).heap[w.heap.size]? = some (.cells #[.int .i64 0, .slice none 0 0] 42 (0, 0)) ∧ (((w5.setCell ⟨w.heap.size, 0, none⟩ (.int .i64 0)).setCell ⟨w.heap.size, 1, none⟩ (.slice none 0 0)).setCell ⟨w.heap.size + 1, 0, none⟩ (.bool false)).heap[w.heap.size + 1]? = some (.cells #[.bool false] 4 (0, 0))) ∧ Below w.heap.size w (((w5.setCell ⟨w.heap.size, 0, none⟩ (.int .i64 0)).setCell ⟨w.heap.size, 1, none⟩ (.slice none 0 0)).setCell ⟨w.heap.size + 1, 0, none⟩ (.bool false)) from
      ⟨((HON.out.setCell ⟨w.heap.size, 0, none⟩ (.inl rfl) _).setCell ⟨w.heap.size, 1, none⟩ (.inl rfl) _).setCell ⟨w.heap.size + 1, 0, none⟩ (.inr (.inl rfl)) _, ⟨hbad, (set_three T2.out T3.out).1, (set_three T2.out T3.out).2.1⟩,
        ((HB2.out.setCell (p := ⟨w.heap.size, 0, none⟩) (Nat.le_refl _) _).setCell (p := ⟨w.heap.size, 1, none⟩) (Nat.le_refl _) _).setCell (p := ⟨w.heap.size + 1, 0, none⟩) (Nat.le_succ _) _⟩))
    clear hnum hB2 v2 t2 t3 hs2 hlw hzz
    cases ok
    · have HBD := Lib.hid (show BadP (pre ++ [x]) from .inl ⟨pre, x, rfl, HNUM.out.2 rfl⟩)
      gi_wp2_with fail
      exact HRET.out HBD.out
    · by_cases h16 : ps.length = 16
      · have g1 : ((ps.length : Int) == 16) = true := by simp [h16]
        have HBD := Lib.hid (show BadP (pre ++ [x]) from .inr (by rw [HR.out.1]; simp; omega))
        gi_wp2_with fail
        exact HRET.out HBD.out
      · have g1 : ((ps.length : Int) == 16) = false := by simp; omega
        have r3 := heap_alloc_new w5 (.cells #[.int .i64 m] 2)
        have R0 := Lib.hid (cell_of_row _ w5.heap.size 0 _ _ _ r3 : (w5.alloc (.cells #[.int .i64 m] 2)).cell? ⟨w5.heap.size, 0, none⟩ = some (.int .i64 m))
        have HS6 := Lib.hid (World.size_alloc w5 (.cells #[.int .i64 m] 2))
        have HOW6 := Lib.hid (HO2.out.below ((Below.refl _ w5).alloc (Nat.le_refl _) (.cells #[.int .i64 m] 2)) (Nat.le_refl _))
        have V6 := Lib.hid (heap_old V5.out (.cells #[.int .i64 m] 2))
        have T26 := Lib.hid (heap_old T2.out (.cells #[.int .i64 m] 2))
        have T36 := Lib.hid (heap_old T3.out (.cells #[.int .i64 m] 2))
        have HO6 := Lib.hid (HON.out.alloc (by have := HZ5.out; have := HXS.out; omega) (.cells #[.int .i64 m] 2))
        have B6 := Lib.hid (HB2.out.alloc HB2.out.size (.cells #[.int .i64 m] 2))
        have HRD := Lib.hid (readP_snoc HR.out (HNUM.out.1 rfl) h16)
        obtain ⟨PL, hPL⟩ : ∃ PL, PL = ps.length := ⟨_, rfl⟩
        have HPL := Lib.hid hPL
        rw [← hPL] at c0 g1 hp16
        have HP16 := Lib.hid hp16
        clear r3 hPL h16 HRET d0 d1 d2 f0 f1 f2
        gi_wp2_with (first
          | (gi_at_builtin; refine wpListIn_OwnP rfl (.tmp 54) (.tmp 56) rfl (X.heap.size + 2) _ ps rfl (by rw [HPL.out]; exact HOW6.out) ⟨w5.heap.size, 0, none⟩ 1 1 [m] rfl rfl (one_price R0.out) (PL + 1) (by rw [HPL.out]) (by have := HP16.out; omega) (by rw [HS6.out]; have := HZ5.out; have := HXS.out; omega) ?_; intro a2 c5 W7 hO7 hG7
             have hv7 := (hG7.block z (by rw [HS6.out]; have := HZ5.out; omega) (fun e => by have := (HOW6.out.row z (by rw [← HPL.out]; exact e.symm)).1; have := HXS.out; omega)).trans V6.out
             have z0 : W7.cell? ⟨z, 0, none⟩ = _ := cell_of_row _ _ 0 _ _ _ hv7
             have zf : W7.frozen? ⟨z, 0, none⟩ = false := frozen_of_row W7 _ 0 _ _ hv7))
        have hrow : ∀ r, (Value.slice va PL vc).ownBlock = some r → X.heap.size + 2 ≤ r := fun r e => (HOW6.out.row r (by rw [← HPL.out]; exact e)).1
        have hX := HXS.out
        have hS6 := HS6.out
        have hz6 := HZ.out
        have hZ5 := HZ5.out
        have t27 := (hG7.block w.heap.size (by omega) (fun e => by have := hrow _ e.symm; omega)).trans T26.out
        have t37 := (hG7.block (w.heap.size + 1) (by omega) (fun e => by have := hrow _ e.symm; omega)).trans T36.out
        have hO8 := HO6.out.trans (Only.grown hG7 (by rw [hS6]; omega) (fun r e => .inl (hrow r e)))
        have hB8 := B6.out.trans ((Below.refl w.heap.size _).grown hG7 (by omega) (fun r e => by have := hrow r e; omega))
        refine ⟨hO8.setCell ⟨z, 0, none⟩ (.inr (.inr rfl)) _, ⟨⟨_, _, heap_setCell_same _ z 0 _ _ _ hv7, hO7.kept (fun k hk => heap_setCell_other _ ⟨z, 0, none⟩ k _ (by have := (hO7.row k hk).1; show k ≠ z; omega)), HRD.out⟩, ?_, ?_⟩, hB8.setCell (p := ⟨z, 0, none⟩) (by show w.heap.size ≤ z; omega) _⟩
        · exact (heap_setCell_other _ ⟨z, 0, none⟩ w.heap.size _ (by show w.heap.size ≠ z; omega)).trans t27
        · exact (heap_setCell_other _ ⟨z, 0, none⟩ (w.heap.size + 1) _ (by show w.heap.size + 1 ≠ z; omega)).trans t37
  case done =>
    rintro D W rfl ⟨⟨⟨v, ps, hv, hO, hR⟩, ht2, ht3⟩, hB⟩ hK
    obtain ⟨va, vc, rfl, _, _⟩ := hO.form
    have c0 : W.cell? ⟨z, 0, none⟩ = some (.slice va ps.length vc) := cell_of_row _ _ 0 _ _ _ hv
    have d0 : W.cell? ⟨w.heap.size, 0, none⟩ = some (.int .i64 0) := cell_of_row _ _ 0 _ _ _ ht2
    have d1 : W.cell? ⟨w.heap.size, 1, none⟩ = some (.slice none 0 0) := cell_of_row _ _ 1 _ _ _ ht2
    have d2 : W.cell? ⟨w.heap.size + 1, 0, none⟩ = some (.bool false) := cell_of_row _ _ 0 _ _ _ ht3
    have f0 := frozen_of_row W _ 0 _ _ ht2
    have f1 := frozen_of_row W _ 1 _ _ ht2
    have f2 := frozen_of_row W _ 0 _ _ ht3
    have HO := Lib.hid hO
    have HR := Lib.hid hR
    have HT2 := Lib.hid ht2
    have HT3 := Lib.hid ht3
    have HB := Lib.hid hB
    have HK := Lib.hid hK
    have hX := HXS.out
    have hzz := HZ.out
    obtain ⟨y, hy⟩ : ∃ y, (((W.setCell ⟨w.heap.size, 0, none⟩ (.int .i64 n)).setCell ⟨w.heap.size, 1, none⟩ (.slice va ps.length vc)).setCell ⟨w.heap.size + 1, 0, none⟩ (.bool true)) = y := ⟨_, rfl⟩
    obtain ⟨s1, s2, s3⟩ := set_three (u := .int .i64 n) (v := .slice va ps.length vc) (q := .bool true) HT2.out HT3.out
    have hyb : Below w.heap.size w y := by rw [← hy]; exact ((HB.out.setCell (p := ⟨w.heap.size, 0, none⟩) (Nat.le_refl _) _).setCell (p := ⟨w.heap.size, 1, none⟩) (Nat.le_refl _) _).setCell (p := ⟨w.heap.size + 1, 0, none⟩) (Nat.le_succ _) _
    rw [hy] at s1 s2 s3
    have s4 := (s3 X.heap.size (by omega) (by omega)).trans HK.out
    have HOY := Lib.hid (HO.out.kept (fun k hk => s3 k (by have := (HO.out.row k hk).1; omega) (by have := (HO.out.row k hk).1; omega)) : OwnP (X.heap.size + 2) y (.slice va ps.length vc) ps)
    have HY := Lib.hid hy
    have HYB := Lib.hid hyb
    have S1 := Lib.hid s1
    have S2 := Lib.hid s2
    have S4 := Lib.hid s4
    clear hv hO hR ht2 ht3 hB hK x0 x1 x2 p0 p1 p2 xb hy hyb s1 s2 s3 s4
    gi_wp2_with fail
    rw [HY.out]
    refine ⟨by simp, .inl ⟨_, _, rfl, run_takeDeferred S4.out, ?_⟩⟩
    refine ⟨_, results_v rfl rfl ((World.putObj_heap_other (by omega)).trans S1.out) ((World.putObj_heap_other (by omega)).trans S2.out), ⟨⟨n, ps⟩, va, vc, true, rfl, ?_, HYESV.out n ps HN.out HR.out⟩, HYB.out.trans (belowK_b (w := w) (Nat.le_refl _) _ _ _ _ (by omega) S4.out rfl rfl)⟩
    exact ownsRow_putObj (HOY.out.base (by omega)) _ S4.out rfl
  case stop =>
    rintro D pre W rfl hpre ⟨⟨hbad, ht2, ht3⟩, hB⟩ hK
    have HBAD := Lib.hid (HBADV.out pre hpre hbad)
    have HT2 := Lib.hid ht2
    have HT3 := Lib.hid ht3
    have HB := Lib.hid hB
    have HK := Lib.hid hK
    have hX := HXS.out
    have hzz := HZ.out
    clear hbad ht2 ht3 hB hK hpre x0 x1 x2 p0 p1 p2 xb
    gi_wp2_with fail
    refine ⟨by simp, .inl ⟨_, _, rfl, run_takeDeferred HK.out, ?_⟩⟩
    exact ⟨_, results_v rfl rfl ((World.putObj_heap_other (by omega)).trans HT2.out) ((World.putObj_heap_other (by omega)).trans HT3.out), VerE.no HBAD.out, HB.out.trans (belowK_b (w := w) (Nat.le_refl _) _ _ _ _ (by omega) HK.out rfl rfl)⟩
theorem versionIn_any (s : List UInt8) (hs : s.length ≤ 1000000) (w : World) (hT : TabsD w) : Calls Tryd.prog 29 #[strL s] w fun e w' => VerE w.heap.size s e w' ∧ Below w.heap.size w w' := by
  cases hsf : Lib.hasSuffix s [10] with
  | false => exact ver_a s hs hsf w
  | true =>
    obtain ⟨c, hsc, htr⟩ := suf_yes hsf
    rcases cut_split 32 c with ⟨hcut, hno⟩ | ⟨a, b, hcc, hno, hcut⟩
    · exact ver_b s c hs hsc hsf htr hno hcut w hT
    · by_cases hn : ∃ m, I64 m ∧ a = Lib.itoa m
      · obtain ⟨m0, h1, h2⟩ := hn
        exact ver_d s c a b hs hsc hcc hsf htr hno hcut m0 h1 h2 w hT
      · subst hcc
        exact ver_c s a b hs hsc hsf htr hno hcut (fun m h1 h2 => hn ⟨m, h1, h2⟩) w hT
end Go.Proofs.YthlpigffjbhmoaaDoor
